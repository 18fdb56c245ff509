package promise_test

import (
	"math"
	"reflect"
	"slices"
	"strings"
	"testing"

	"troth/api"
	"troth/certify"
	"troth/config"
	"troth/memory"
	"troth/parse"
	"troth/promise"
	"troth/span"
	"troth/step"
	"troth/thread"
	"troth/tview"
	"troth/unroll"
	"troth/view"
)

// nobody owns what is no thread's.
const nobody = -1

// x and y are the places of these two letters.
const (
	x = iota
	y
)

// times are one of each location.
type times = [api.MaxLocations]int

// in is a span that a test knows to be one.
func in(from, to int) span.Span { return span.Span(complex(float64(from), float64(to))) }

// upto is a view that knows of a location a time, both ways.
func upto(loc, to int) view.View { return view.View{Pln: put(loc, to), Rlx: put(loc, to)} }

// put is a time of one location.
func put(loc, at int) (t times) {
	t[loc] = at
	return t
}

// message is one of nobody's, that knows of itself.
func message(loc, from, to int, n uint64) memory.Item { return promised(nobody, loc, from, to, n) }

// promised is a thread's, that knows of itself.
func promised(owner, loc, from, to int, n uint64) memory.Item {
	return memory.Item{Loc: loc, S: in(from, to), N: n, V: upto(loc, to), Owner: owner}
}

// knows is a message or a promise whose view is another one.
func knows(m memory.Item, v ...view.View) memory.Item {
	m.V = view.View{}.Join(v...)
	return m
}

// reserved is a reservation.
func reserved(owner, loc, from, to int) memory.Item {
	return memory.Item{Loc: loc, S: in(from, to), Res: true, Owner: owner}
}

// vow is the step Promise, of a write that knows of itself, and what else it knows.
func vow(loc, from, to int, n uint64, more ...view.View) step.Step {
	return step.Step{Kind: step.Promise, Loc: loc, S: in(from, to), N: n, V: upto(loc, to).Join(more...)}
}

// plain is the step Promise, of a write that knows nothing.
func plain(loc, from, to int, n uint64) step.Step {
	return step.Step{Kind: step.Promise, Loc: loc, S: in(from, to), N: n}
}

// hold is the step Reserve.
func hold(loc, from, to int) step.Step {
	return step.Step{Kind: step.Reserve, Loc: loc, S: in(from, to)}
}

// program is that of a text, its loops unrolled so often.
func program(t *testing.T, text string, k int) unroll.Program {
	t.Helper()
	test, at, err := parse.Parse(text)
	if err != api.OK {
		t.Fatal(text, at, err)
	}
	p, err := unroll.Unroll(test, k)
	if err != api.OK {
		t.Fatal(text, err)
	}
	return p
}

// scene is a program, at a configuration of it.
type scene struct {
	*testing.T
	p unroll.Program
	c config.Config
}

// made is a scene of a text, its loops unrolled so often, with more items.
func made(t *testing.T, text string, k int, l ...memory.Item) scene {
	t.Helper()
	p := program(t, text, k)
	return scene{t, p, config.Begin(p)}.with(l...)
}

// one is a scene of one thread of these statements and another one that writes, with x and y, which are 7 and 8 at first, and more items.
func one(t *testing.T, statements string, l ...memory.Item) scene {
	t.Helper()
	return made(t, "init x = 7; init y = 8; thread { "+statements+" } thread { store(x, 1, rlx); } exists x + y;", 1, l...)
}

// with is it with more items.
func (s scene) with(l ...memory.Item) scene {
	s.Helper()
	for _, x := range l {
		m, err := s.c.M.Add(x)
		if err != api.OK {
			s.Fatal(x, err)
		}
		s.c.M = m
	}
	return s
}

// knowing is it with other views of the thread 0.
func (s scene) knowing(v tview.Views) scene {
	s.c = s.c.With(0, config.Thread{S: s.c.T[0].S, V: v})
	return s
}

// cur knows one view as cur and acq.
func cur(v view.View) tview.Views { return tview.Views{Cur: v, Acq: v} }

// rel knows one view as cur and acq, and tells it with what it writes to a location.
func rel(loc int, v view.View) tview.Views {
	k := cur(v)
	k.Rel[loc] = v
	return k
}

// told is all that a configuration holds, in lists of a test's own.
type told struct {
	items   [][]memory.Item
	threads []config.Thread
	s       times
}

// tell is what a configuration holds.
func tell(c config.Config) told {
	x := told{threads: append([]config.Thread{}, c.T...), s: c.S}
	for loc := range c.M.Locs() {
		x.items = append(x.items, c.M.List(loc))
	}
	return x
}

// roomy is a configuration whose list of threads has more behind its end, and what stands in all of that list.
func roomy(c config.Config) (config.Config, func() []config.Thread) {
	l := append(append(make([]config.Thread, 0, len(c.T)+2), c.T...), config.Thread{S: thread.State{At: 99}}, config.Thread{})
	c.T = l[:len(c.T)]
	return c, func() []config.Thread { return slices.Clone(l) }
}

// candidates are a thread's. It sees to it that what was handed in stays, that the answer is the caller's own, the same again, and each of it what it may be.
func (s scene) candidates(i int) []step.Step {
	s.Helper()
	c, list := roomy(s.c)
	was, threads := tell(c), list()
	first := promise.Candidates(s.p, c, i)
	held := slices.Clone(first)
	first = first[:cap(first)]
	for n := range first {
		first[n] = step.Step{Kind: 99}
	}
	again := promise.Candidates(s.p, c, i)
	if !slices.Equal(again, held) {
		s.Fatal("not the same again", again, held)
	}
	if !reflect.DeepEqual(tell(c), was) || !slices.Equal(list(), threads) {
		s.Fatal("what was handed in is another one", tell(c), was)
	}
	seen := map[step.Step]int{}
	for _, x := range again {
		if seen[x]++; seen[x] > 1 {
			s.Fatal("told twice", x)
		}
		s.can(i, x)
	}
	return again
}

// can sees to it that a candidate is one: nothing but what its kind uses, done, and the thread certified behind it.
func (s scene) can(i int, x step.Step) {
	s.Helper()
	used := step.Step{Kind: x.Kind, Loc: x.Loc, S: x.S}
	if x.Kind == step.Promise {
		used.N, used.V = x.N, x.V
	}
	if x != used || x.Kind != step.Promise && x.Kind != step.Reserve {
		s.Fatal("it is more than it may be", x)
	}
	next, is := step.Do(s.p, s.c, i, x)
	if !is {
		s.Fatalf("%v can't be done at %v", x, tell(s.c))
	}
	if _, is = certify.Certify(s.p, next, i); !is {
		s.Fatalf("not certified behind %v, at %v", x, tell(s.c))
	}
}

// sorted are steps in an order of a test's own.
func sorted(l []step.Step) []step.Step {
	at := func(s step.Step) []int {
		return append(append([]int{int(s.Kind), s.Loc, s.S.From(), s.S.To(), int(s.N)}, s.V.Pln[:]...), s.V.Rlx[:]...)
	}
	l = slices.Clone(l)
	slices.SortFunc(l, func(a, b step.Step) int { return slices.Compare(at(a), at(b)) })
	return l
}

// makes sees to it that the thread 0 can make just these.
func (s scene) makes(want ...step.Step) {
	s.Helper()
	if got := s.candidates(0); !slices.Equal(sorted(got), sorted(want)) {
		s.Errorf("%v, not %v, at %v", sorted(got), sorted(want), tell(s.c))
	}
}

// vows sees to it that the thread 0 can make just these promises, whatever it can reserve.
func (s scene) vows(want ...step.Step) {
	s.Helper()
	got := slices.DeleteFunc(s.candidates(0), func(x step.Step) bool { return x.Kind == step.Reserve })
	if !slices.Equal(sorted(got), sorted(want)) {
		s.Errorf("%v, not %v, at %v", sorted(got), sorted(want), tell(s.c))
	}
}

// ends are promises of a write at both places where it can stand, if nothing but the first message is there.
func ends(loc int, n uint64, more ...view.View) []step.Step {
	return []step.Step{vow(loc, 0, 1, n, more...), vow(loc, 1, 2, n, more...)}
}

// all are lists, one behind the other.
func all(l ...[]step.Step) []step.Step { return slices.Concat(l...) }

// P18.1: as the chapter's example shows them.
func TestExample(t *testing.T) {
	s := made(t, "thread { r0 = load(y, rlx); store(x, 1, rlx); } exists x + y;", 1)
	s.makes(ends(x, 1)...)
}

// P18.1: what stands behind reads that the thread can do alone: of each number that it may read there is a write.
func TestWritesBehindReads(t *testing.T) {
	one(t, "store(x, 1, rlx);").makes(ends(x, 1)...)
	one(t, "r0 = load(y, rlx); store(x, r0, rlx);").makes(ends(x, 8)...)
	one(t, "r0 = load(y, acq); r1 = load(y, pln); store(x, r0 + r1 * 10, rlx);").makes(ends(x, 88)...)
	text := "r0 = load(y, rlx); store(x, r0, rlx);"
	one(t, text, message(y, 1, 2, 4), promised(1, y, 2, 3, 5)).makes(all(ends(x, 8), ends(x, 4), ends(x, 5))...) // a promise may be read too
	one(t, text, message(y, 1, 2, 4), reserved(1, y, 2, 3)).makes(all(ends(x, 8), ends(x, 4))...)                // a reservation may not
	one(t, text, message(y, 1, 2, 8), message(y, 2, 3, 8)).makes(ends(x, 8)...)                                  // each once
	one(t, text, message(y, 1, 2, 4), message(y, 2, 3, 5)).knowing(cur(upto(y, 2))).makes(all(ends(x, 4), ends(x, 5))...)
	one(t, "r0 = load(y, rlx); if (r0 == 8) { store(x, 1, rlx); } else { store(x, 2, rlx); }", message(y, 1, 2, 4)).makes(all(ends(x, 1), ends(x, 2))...)
	one(t, "r0 = load(y, rlx); if (r0 == 4) { store(x, 1, rlx); }").makes()
	one(t, "store(y, 3, pln); r0 = load(y, rlx); store(x, r0, rlx);").makes(append(ends(x, 3), plain(y, 0, 1, 3), plain(y, 1, 2, 3))...) // it knows what it wrote
	one(t, "r0 = load(x, rlx); r1 = load(x, rlx); store(y, r0 * 10 + r1, rlx);", message(x, 0, 1, 1)).makes(all(ends(y, 77), ends(y, 71), ends(y, 11))...)
	one(t, "fence(acq); r0 = 5; store(x, r0, rlx);").makes(ends(x, 5)...)
	one(t, "r0 = load(x, rlx);").makes()
	one(t, "fence(acq);").makes()
}

// P18.1: writes behind writes, as far as what is written ahead of them need not be at a place that is gone.
func TestWritesBehindWrites(t *testing.T) {
	one(t, "store(x, 1, rlx); store(y, 2, rlx);").makes(all(ends(x, 1), ends(y, 2))...)
	one(t, "store(x, 1, rlx); store(x, 2, rlx);").makes(ends(x, 1)...) // in capped memory none is ahead of a promise of 2
	one(t, "store(x, 1, rlx); store(x, 2, rlx);", reserved(0, x, 0, 1)).makes(vow(x, 1, 2, 1), vow(x, 2, 3, 1), vow(x, 1, 2, 2), vow(x, 2, 3, 2))
	one(t, "store(x, 1, rlx); store(x, 2, rlx);", reserved(1, x, 0, 1)).makes(vow(x, 1, 2, 1), vow(x, 2, 3, 1))
	one(t, "store(x, 1, rlx); store(x, 2, rlx);", promised(0, x, 0, 1, 1)).makes(vow(x, 1, 2, 2), vow(x, 2, 3, 2))
	one(t, "store(x, 1, rlx); store(x, 1, rlx);", promised(0, x, 1, 2, 1)).makes(vow(x, 0, 1, 1), vow(x, 2, 3, 1), vow(x, 3, 4, 1))
	one(t, "store(x, 1, pln); store(x, 2, pln); store(y, 3, rlx); store(y, 4, pln);").makes(append(ends(y, 3), plain(x, 0, 1, 1), plain(x, 1, 2, 1))...)
	one(t, "r0 = load(y, rlx); store(y, 5, rlx); r1 = load(y, rlx); store(x, r0 + r1, rlx);").makes(all(ends(y, 5), ends(x, 13))...)
}

// P18.1: what is written by Rel is not promised: nor what is written by it at that location later, nor what is behind a fence, but a write that knows nothing.
func TestNoPromiseByRel(t *testing.T) {
	one(t, "store(x, 1, rel);").makes()
	one(t, "store(x, 1, rel); store(y, 2, rlx);").makes(ends(y, 2)...)
	one(t, "store(x, 1, rel); store(x, 2, pln);", reserved(0, x, 0, 1)).makes(plain(x, 1, 2, 2), plain(x, 2, 3, 2))
	one(t, "store(x, 1, rel); store(x, 2, rlx);", reserved(0, x, 0, 1)).makes()
	one(t, "store(x, 1, rlx); store(x, 2, rel);").makes(ends(x, 1)...)
	for _, mode := range []string{"rel", "ar"} {
		one(t, "r0 = add(x, 1, "+mode+");").vows()
		one(t, "r0 = swap(x, 1, "+mode+"); store(y, r0, rlx);").vows() // it has no place to update at, but where it reserved one
		one(t, "r0 = swap(x, 1, "+mode+"); store(y, r0, rlx);", reserved(0, x, 0, 1)).makes(ends(y, 7)...)
		one(t, "fence("+mode+"); store(x, 1, rlx);").makes()
		one(t, "fence("+mode+"); store(x, 1, pln);").makes(plain(x, 0, 1, 1), plain(x, 1, 2, 1))
		one(t, "store(x, 1, rlx); fence("+mode+");").makes(ends(x, 1)...)
	}
	one(t, "fence(acq); store(x, 1, rlx);").makes(ends(x, 1)...)
	for _, mode := range []string{"pln", "rlx"} {
		one(t, "fence(sc); store(x, 1, "+mode+");").makes() // behind the fence it knows what it promised
	}
	one(t, "store(x, 1, pln); fence(sc);").makes(plain(x, 0, 1, 1), plain(x, 1, 2, 1))
}

// behind are promises of an update of the last message of a location, which ends there, and the reservations of a thread that updates, where nothing but first messages is at all others.
func behind(loc, to int, l ...step.Step) []step.Step {
	return append(l, hold(loc, to, to+1), hold(1-loc, 0, 1))
}

// P18.1: an update's write is of what it reads, which must be right ahead of it.
func TestUpdates(t *testing.T) {
	one(t, "r0 = add(x, 1, rlx);").makes(behind(x, 0, vow(x, 0, 1, 8))...)
	one(t, "r0 = add(y, 1, acq);").makes(behind(y, 0, vow(y, 0, 1, 9))...)
	one(t, "r0 = swap(x, 5, rlx);").makes(behind(x, 0, vow(x, 0, 1, 5))...)
	one(t, "r0 = cas(x, 7, 5, rlx);").makes(behind(x, 0, vow(x, 0, 1, 5))...)
	one(t, "r0 = cas(x, 6, 5, rlx);").makes(behind(x, 0)...) // it does not write
	one(t, "r0 = cas(x, 6, 5, rlx); store(x, r0, rlx);").vows(ends(x, 7)...)
	one(t, "r0 = cas(x, 7, 5, rlx); store(x, r0, rlx);").vows(vow(x, 0, 1, 5))
	two := message(x, 2, 3, 9)
	held := []step.Step{hold(x, 0, 1), hold(x, 0, 2), hold(x, 3, 4), hold(y, 0, 1)}
	one(t, "r0 = add(x, 1, rlx);", two).makes(append(held, vow(x, 0, 1, 8), vow(x, 0, 2, 8), vow(x, 3, 4, 10))...) // one message or another
	one(t, "r0 = cas(x, 9, 1, rlx);", two).makes(append(held, vow(x, 3, 4, 1))...)
	one(t, "r0 = add(x, 1, rlx);", two).knowing(cur(upto(x, 3))).makes(append(held, vow(x, 3, 4, 10))...)
	one(t, "r0 = add(x, 1, rlx);", two).knowing(cur(view.At(x, 3, false))).makes(append(held, vow(x, 3, 4, 10))...)
	one(t, "r0 = add(x, 1, rlx);", two).knowing(cur(upto(x, 4))).makes(held...) // it can read none
	one(t, "r0 = add(x, 1, rlx);", promised(1, x, 0, 1, 9), reserved(1, x, 1, 2)).makes(hold(y, 0, 1))
	one(t, "r0 = add(x, 1, rlx);", promised(1, x, 0, 1, 9)).makes(behind(x, 1, vow(x, 1, 2, 10))...) // another one's promise
	one(t, "r0 = add(x, 1, rlx); r1 = add(x, 1, rlx);").vows(vow(x, 0, 1, 8))
	one(t, "r0 = add(x, 1, rlx); r1 = add(x, 1, rlx);", promised(0, x, 0, 1, 8)).vows(vow(x, 1, 2, 9)) // its own
	one(t, "r0 = add(x, 1, rlx); r1 = add(x, 1, rlx);", reserved(0, x, 0, 1)).makes(vow(x, 1, 2, 9))
	one(t, "r0 = add(x, 1, rlx); r1 = add(x, 1, rlx);", reserved(0, x, 0, 1), message(x, 1, 2, 3)).makes(vow(x, 2, 3, 4))
}

// P18.1: loops that were unrolled, threads that are stuck, or have ended.
func TestUnrolled(t *testing.T) {
	text := "thread { r1 = 3; while (r1) { store(x, r1, pln); store(y, r1, rlx); r1 = r1 - 1; } } exists x + y;"
	for k, want := range [][]step.Step{nil, append(ends(y, 3), plain(x, 0, 1, 3), plain(x, 1, 2, 3)), append(ends(y, 3), plain(x, 0, 1, 3), plain(x, 1, 2, 3))} {
		made(t, text, k).makes(want...)
	}
	made(t, text, 3, promised(0, y, 0, 1, 3), promised(0, y, 1, 2, 2)).makes(vow(y, 2, 3, 1), vow(y, 3, 4, 1), plain(x, 0, 1, 3), plain(x, 1, 2, 3))
	made(t, text, 2, promised(0, y, 0, 1, 3), promised(0, y, 1, 2, 2)).makes(plain(x, 0, 1, 3), plain(x, 1, 2, 3))
	made(t, text, 1, promised(0, y, 0, 1, 3)).makes(plain(x, 0, 1, 3), plain(x, 1, 2, 3))
	made(t, text, 1, promised(0, y, 0, 1, 3), promised(0, y, 1, 2, 2)).makes() // it can't keep what it owes already
	one(t, "while (1) { store(x, 1, rlx); } store(y, 1, rlx);").makes(ends(x, 1)...)
	one(t, "while (1) { r0 = swap(x, 1, rlx); } store(y, 1, rlx);").vows(vow(x, 0, 1, 1))
	one(t, "while (1) { } store(x, 1, rlx); r0 = swap(x, 1, rlx);").makes()
	one(t, "while (r0 == 0) { r0 = load(x, rlx); } store(y, 1, rlx);").makes(ends(y, 1)...)
	one(t, "while (r0 < 8) { r0 = load(x, rlx); } store(y, 1, rlx);").makes()
	one(t, "while (r0 < 8) { r0 = load(x, rlx); } store(y, 1, rlx);", message(x, 0, 1, 9)).makes(ends(y, 1)...)
	one(t, "").makes()
	one(t, "r0 = 1;").makes()
	s := one(t, "store(x, 1, rlx); r0 = swap(x, 1, rlx);")
	for at, want := range map[int]bool{-1: false, -5: false, 99: false, s.c.T[0].S.At: true} {
		s.c = s.c.With(0, config.Thread{S: thread.State{At: at}})
		if l := s.candidates(0); len(l) > 0 != want {
			t.Error(at, l)
		}
	}
}

// P18.1: in the view of what is written the time of the own location is the end of the place; of a write by Pln the view is nothing.
func TestOpenTime(t *testing.T) {
	gap := []memory.Item{message(x, 10, 20, 5), message(x, 30, 40, 5)}
	places := [][2]int{{0, 10}, {0, 1}, {1, 10}, {1, 2}, {20, 30}, {20, 21}, {21, 30}, {21, 22}, {40, 41}, {41, 42}}
	var rlx, pln []step.Step
	for _, at := range places {
		rlx, pln = append(rlx, vow(x, at[0], at[1], 1)), append(pln, plain(x, at[0], at[1], 1))
	}
	one(t, "store(x, 1, rlx);", gap...).makes(rlx...)
	one(t, "store(x, 1, pln);", gap...).makes(pln...)
	one(t, "store(x, 1, rlx);", gap...).knowing(rel(x, upto(x, 20))).makes(rlx[4:]...) // what is told of the own location is always less
	one(t, "store(x, 1, pln);", gap...).knowing(rel(x, upto(x, 20))).makes(pln[4:]...)
	one(t, "store(x, 1, pln);", gap...).knowing(rel(x, upto(y, 0))).makes(pln...)
	update := []step.Step{vow(x, 20, 21, 6), vow(x, 20, 30, 6), vow(x, 40, 41, 6)}
	late := []memory.Item{knows(gap[0], view.At(x, 20, false)), knows(gap[1])}
	one(t, "r0 = add(x, 1, rlx);", gap...).knowing(rel(x, upto(x, 20))).vows(update...)
	one(t, "r0 = add(x, 1, rlx);", late...).knowing(rel(x, view.At(x, 20, false))).vows(update...) // whatever of itself the message that is read knows
}

// P18.1: times of other locations, as the thread tells them, or as the message that it updates knows them: by the times of the configuration, pln and rlx each by itself.
func TestOtherTimes(t *testing.T) {
	l := []memory.Item{message(y, 3, 5, 4), message(y, 5, 8, 4), reserved(1, y, 11, 13), message(y, 13, 17, 4)}
	for _, v := range []view.View{
		{}, upto(y, 5), upto(y, 8), upto(y, 17), view.At(y, 5, false), view.At(y, 17, false), upto(y, 5).Join(view.At(y, 8, false)), upto(y, 8).Join(view.At(y, 17, false)),
	} {
		one(t, "store(x, 1, rlx);", l...).knowing(rel(x, v)).makes(ends(x, 1, v)...)
		one(t, "store(x, 1, rlx);", l...).knowing(rel(y, v)).makes(ends(x, 1)...) // not told with what is written there
		one(t, "store(x, 1, rlx);", l...).knowing(cur(v)).makes(ends(x, 1)...)    // not told at all
		one(t, "store(x, 1, pln);", l...).knowing(rel(x, v)).makes(plain(x, 0, 1, 1), plain(x, 1, 2, 1))
		more := append(l, knows(message(x, 1, 2, 6), upto(x, 2), v))
		one(t, "r0 = add(x, 1, rlx);", more...).vows(vow(x, 0, 1, 8), vow(x, 2, 3, 7, v))
		one(t, "r0 = add(x, 1, acq);", more...).knowing(rel(x, upto(y, 5))).vows(vow(x, 0, 1, 8, upto(y, 5)), vow(x, 2, 3, 7, upto(y, 5), v))
		one(t, "r0 = load(x, acq); store(y, r0, rlx);", more...).knowing(rel(y, upto(y, 17))).makes(
			vow(y, 17, 18, 7), vow(y, 18, 19, 7), vow(y, 17, 18, 6), vow(y, 18, 19, 6)) // what it hears it does not tell yet
	}
	four := made(t, "init w = 1; init z = 4; thread { store(y, 1, rlx); } exists w + x + y + z;", 0,
		message(0, 7, 9, 2), message(0, 11, 12, 2), message(1, 70, 90, 2), message(2, 20, 21, 3), message(3, 1, 2, 4), message(3, 2, 5, 4))
	v := view.View{Pln: times{9, 0, 21, 5}, Rlx: times{12, 90, 21, 5}}
	four.knowing(rel(2, v)).makes(vow(2, 21, 22, 1, v), vow(2, 22, 23, 1, v))
}

// P18.1: a write that knows of a message that was written on the way is none.
func TestTimesOnTheWay(t *testing.T) {
	one(t, "store(y, 1, pln); fence(rel); store(x, 1, rlx);").makes(plain(y, 0, 1, 1), plain(y, 1, 2, 1))
	one(t, "store(y, 5, pln); fence(rel); r0 = load(y, rlx); if (r0 == 5) { store(x, 1, rlx); } else { store(x, 1, pln); }").makes(plain(y, 0, 1, 5), plain(y, 1, 2, 5))
	one(t, "store(y, 5, pln); store(x, 1, rel); r0 = add(x, 1, rlx);").vows(plain(y, 0, 1, 5), plain(y, 1, 2, 5))
	one(t, "store(y, 5, pln); store(x, 1, rel); r0 = add(x, 1, rlx);", reserved(0, y, 0, 1), reserved(0, x, 0, 1)).vows(plain(y, 1, 2, 5), plain(y, 2, 3, 5))
}

// P18.1: with the span of any place: at the front, between two items, behind the last one; not where another one's promise is, or a reservation.
func TestPlaces(t *testing.T) {
	l := []memory.Item{message(x, 2, 3, 5), promised(1, x, 5, 6, 5), reserved(1, x, 6, 7), reserved(nobody, x, 7, 8), message(x, 9, 10, 5), message(y, 0, 9, 3)}
	want := []step.Step{vow(x, 0, 1, 1), vow(x, 0, 2, 1), vow(x, 1, 2, 1), vow(x, 3, 4, 1), vow(x, 3, 5, 1), vow(x, 4, 5, 1), vow(x, 8, 9, 1), vow(x, 10, 11, 1), vow(x, 11, 12, 1)}
	one(t, "store(x, 1, rlx);", l...).makes(want...)
	for to, left := range map[int]int{1: 8, 2: 6, 3: 6, 4: 5, 5: 3, 6: 3, 8: 3, 9: 2, 10: 2, 11: 1, 12: 0} {
		one(t, "store(x, 1, rlx);", l...).knowing(cur(view.At(x, to, false))).makes(want[len(want)-left:]...)
	}
	one(t, "store(x, 1, rlx);", append(l, reserved(1, x, 0, 2), reserved(1, x, 3, 5), promised(1, x, 8, 9, 1))...).makes(want[7:]...)
	one(t, "store(x, 1, rlx);", message(x, 5, span.MaxTime-1, 5)).makes(vow(x, 0, 1, 1), vow(x, 0, 5, 1), vow(x, 1, 2, 1), vow(x, 1, 5, 1), vow(x, span.MaxTime-1, span.MaxTime, 1))
	one(t, "store(x, 1, rlx);", message(x, 1, span.MaxTime, 5)).makes(vow(x, 0, 1, 1))
	one(t, "store(x, 1, rlx);", message(x, 0, span.MaxTime, 5)).makes()
}

// P18.1: promises that can be made, but behind which the thread is not certified; and who is not certified as it is promises what makes it so.
func TestNotCertified(t *testing.T) {
	one(t, "store(x, 1, rlx); r0 = load(x, rlx); store(y, r0, rlx);").makes(all(ends(x, 1), ends(y, 1))...)
	one(t, "store(x, 1, rlx); r0 = load(x, rlx); store(y, r0, rlx);", message(x, 0, 1, 5)).makes(append(ends(y, 1), vow(x, 1, 2, 1), vow(x, 2, 3, 1))...)
	one(t, "r0 = load(y, rlx); store(x, 1, rlx); store(y, r0, rlx);", promised(0, y, 0, 1, 8)).makes(ends(x, 1)...)
	one(t, "r0 = load(y, rlx); store(x, r0, rlx); store(y, 5, rlx);", promised(0, y, 0, 1, 5)).makes(ends(x, 8)...) // who reads its own promise can't keep it
	one(t, "if (r0) { store(x, 1, rlx); } else { store(x, 2, rlx); store(y, 3, rlx); }", promised(0, x, 0, 1, 1)).makes()
	one(t, "store(x, 1, rlx); store(y, 2, rlx); store(x, 3, rlx);", promised(0, y, 0, 1, 7)).makes() // nothing helps
	text := "r0 = swap(x, 1, rlx); store(y, 5, rlx);"
	one(t, text, promised(0, y, 0, 1, 5)).makes(hold(x, 0, 1), vow(x, 0, 1, 1)) // with a place to update at it keeps what it owes
	one(t, text, promised(0, y, 0, 1, 5), message(x, 5, 6, 3)).makes(hold(x, 0, 1), hold(x, 0, 5), hold(x, 6, 7), vow(x, 0, 1, 1), vow(x, 0, 5, 1), vow(x, 6, 7, 1))
	one(t, text, promised(0, y, 0, 1, 5), reserved(0, x, 0, 1)).makes()
}

// P18.1: as many promises as the rest of the thread has writes, and one more.
func TestAsManyAsWrites(t *testing.T) {
	own := []memory.Item{promised(0, x, 0, 1, 1), promised(0, x, 1, 2, 2), promised(0, x, 2, 3, 3)}
	text := "store(x, 1, rlx); store(x, 2, rlx); store(x, 3, rlx);"
	one(t, text, own[:0]...).makes(ends(x, 1)...)
	one(t, text, own[:1]...).makes(vow(x, 1, 2, 2), vow(x, 2, 3, 2))
	one(t, text, own[:2]...).makes(vow(x, 2, 3, 3), vow(x, 3, 4, 3))
	one(t, text, own...).makes()
	one(t, "store(y, 1, rlx); store(y, 1, rlx);", promised(0, y, 0, 1, 1), promised(0, y, 1, 2, 1)).makes()
	one(t, "store(y, 1, rlx);", promised(0, y, 1, 2, 1)).makes()
	one(t, "store(y, 1, rlx);", promised(1, y, 1, 2, 1)).makes(vow(y, 0, 1, 1), vow(y, 2, 3, 1), vow(y, 3, 4, 1))
	one(t, "store(y, 1, rlx); store(y, 1, rlx);", promised(0, y, 0, 1, 1)).makes(vow(y, 1, 2, 1), vow(y, 2, 3, 1))
	one(t, "if (r0) { store(y, 1, rlx); store(y, 1, rlx); } store(y, 1, rlx);", promised(0, y, 1, 2, 1)).makes() // of three writes it does one
	one(t, "r0 = cas(x, 0, 1, rlx); store(y, 1, rlx);", promised(0, y, 1, 2, 1)).vows()                          // and here too
	one(t, "r0 = add(x, 1, rlx);", promised(0, x, 0, 1, 8)).makes(hold(x, 1, 2), hold(y, 0, 1))
}

// P18.1: a reservation behind a message, at any location; not behind a reservation, nor of who has one, nor of who updates nothing any more.
func TestReservations(t *testing.T) {
	l := []memory.Item{message(x, 2, 3, 5), promised(1, x, 5, 6, 5), reserved(1, x, 9, 10), message(y, 0, 9, 3), reserved(nobody, y, 9, 12)}
	want := []step.Step{hold(x, 0, 1), hold(x, 0, 2), hold(x, 3, 4), hold(x, 3, 5), hold(x, 6, 7), hold(x, 6, 9)}
	for _, text := range []string{"r0 = swap(x, 1, rel);", "store(y, 1, rel); r0 = add(y, 1, ar);", "fence(rel); if (r0) { r0 = cas(x, 1, 2, ar); }", "while (r0 < 9) { r0 = r0 + 1; r1 = swap(x, 1, ar); }"} {
		one(t, text, l...).makes(want...)
		for _, own := range []memory.Item{reserved(0, y, 12, 13), reserved(0, x, 3, 5), reserved(0, x, 8, 9)} {
			one(t, text, append(l, own)...).makes()
		}
	}
	for _, text := range []string{"", "r0 = load(x, rlx);", "store(x, 1, rel);", "fence(sc);", "while (r0 < 9) { r0 = r0 + 1; } r1 = swap(x, 1, ar);", "while (1) { }"} {
		one(t, text, l...).makes()
	}
	one(t, "r0 = swap(x, 1, rel);").makes(hold(x, 0, 1), hold(y, 0, 1))
	one(t, "r0 = swap(x, 1, rel);", reserved(nobody, x, 0, 1), message(x, 1, span.MaxTime, 1), message(y, 0, span.MaxTime-1, 1)).makes(hold(y, span.MaxTime-1, span.MaxTime))
	one(t, "r0 = swap(x, 1, rel);", promised(0, y, 0, 1, 5)).makes() // not certified
}

// P18.1: of each thread by its own code; others' promises and reservations are in the way, or may be read.
func TestEachThread(t *testing.T) {
	s := made(t, "thread { store(x, 1, rlx); } thread { r0 = load(x, rlx); store(y, r0, rlx); } thread { r0 = add(y, 1, rlx); } exists x + y;", 0,
		promised(0, x, 0, 1, 1), promised(2, y, 0, 1, 1))
	for i, want := range [][]step.Step{
		nil,
		{vow(y, 1, 2, 0), vow(y, 2, 3, 0), vow(y, 1, 2, 1), vow(y, 2, 3, 1)},
		{hold(x, 1, 2), hold(y, 1, 2)},
	} {
		if got := s.candidates(i); !slices.Equal(sorted(got), sorted(want)) {
			t.Error(i, got)
		}
	}
}

// row are so many messages of a location, one behind the other.
func row(loc, count int) (l []memory.Item) {
	for i := range count {
		l = append(l, message(loc, i, i+1, 7))
	}
	return l
}

// P18.1: where memory can't be capped nothing is, be it full before, or by what is promised or reserved.
func TestNoCapFits(t *testing.T) {
	for loc := range 2 {
		other := 1 - loc
		letter, far := "xy"[loc:][:1], "xy"[other:][:1]
		for n := 36; n < 40; n++ {
			var here, there []step.Step
			if n < 38 { // then there is one more, and room to cap it
				here = append(here, vow(loc, n, n+1, 1))
			}
			if n < 37 { // and here a gap ahead of it too
				here = append(here, vow(loc, n+1, n+2, 1))
			}
			if n < 39 {
				there = ends(other, 1)
			}
			one(t, "store("+letter+", 1, rlx);", row(loc, n)...).makes(here...)
			one(t, "store("+far+", 1, rlx);", row(loc, n)...).makes(there...)
			var held []step.Step
			if n < 38 {
				held = append(held, hold(loc, n, n+1))
			}
			if n < 39 {
				held = append(held, hold(other, 0, 1))
			}
			one(t, "r0 = swap(x, 1, ar);", row(loc, n)...).makes(held...)
		}
	}
}

// P18.1: it hangs on the order of times alone, but for how much room there is: each is made at the times of the configuration as it is.
func TestOfSpread(t *testing.T) {
	s := one(t, "r0 = load(x, rlx); store(y, r0, rlx); r1 = add(x, 1, rlx);",
		message(x, 2, 5, 6), knows(promised(1, x, 5, 6, 9), upto(x, 6), upto(y, 3)), message(y, 1, 3, 5)).knowing(rel(y, upto(x, 5)))
	ranks := func(s scene) map[string]struct{} {
		all := map[string]struct{}{}
		for _, x := range s.candidates(0) {
			next, _ := step.Do(s.p, s.c, 0, x)
			all[next.Ranks().Key()] = struct{}{}
		}
		return all
	}
	wide := s
	wide.c, _ = s.c.Spread(3)
	want := ranks(wide)
	if len(want) < 15 {
		t.Error(len(want))
	}
	for _, n := range []int{3, 4, 70, 1000} {
		wide.c, _ = s.c.Spread(n)
		if got := ranks(wide); !reflect.DeepEqual(got, want) {
			t.Error(n, len(got), len(want))
		}
	}
}

// P18.1, R1: there is an answer soon, however much a thread writes, and however much stands there.
func TestLongThreads(t *testing.T) {
	one(t, strings.Repeat("store(x, 1, rlx); ", 32)).makes(ends(x, 1)...)
	one(t, strings.Repeat("r0 = r0 + 1; store(x, r0, rlx); ", 16)).makes(ends(x, 1)...)
	one(t, strings.Repeat("store(x, 1, pln); store(y, 1, rlx); ", 16)).makes(append(ends(y, 1), plain(x, 0, 1, 1), plain(x, 1, 2, 1))...)
	one(t, strings.Repeat("r0 = add(x, 1, rlx); ", 32)).vows(vow(x, 0, 1, 8))
	one(t, strings.Repeat("store(x, 1, rlx); ", 31)+"store(x, 5, rlx);", reserved(0, x, 0, 1)).makes(vow(x, 1, 2, 1), vow(x, 2, 3, 1), vow(x, 1, 2, 5), vow(x, 2, 3, 5))
	one(t, "store(x, 1, rlx); "+strings.Repeat("r0 = load(y, pln); r1 = load(y, pln); r2 = load(y, pln); r3 = load(y, pln); r4 = load(y, pln); ", 6), row(y, 36)...).makes(ends(x, 1)...)
	one(t, strings.Repeat("r0 = load(y, pln); ", 28)+"store(x, 1, rlx);", row(y, 4)...).makes(ends(x, 1)...) // many ways lead to few configurations
	one(t, strings.Repeat("r0 = load(y, pln); r1 = load(y, pln); r2 = load(y, pln); r3 = load(y, pln); ", 7)+"store(x, 1, rlx);", append(row(y, 36), promised(0, x, 0, 1, 1))...).makes()
}

// P18.1: of no such thread none, whoever owns what.
func TestNoSuchThread(t *testing.T) {
	s := one(t, "store(x, 1, rlx); r0 = swap(y, 1, rlx);", promised(3, x, 3, 4, 1), reserved(2, y, 3, 4))
	none := func(s scene, i int) {
		t.Helper()
		if l := s.candidates(i); len(l) > 0 {
			t.Error(i, l)
		}
	}
	for _, i := range []int{-1, -2, 2, 3, api.MaxThreads, math.MaxInt, math.MinInt} {
		none(s, i)
	}
	more, fewer, bare := s, s, s
	more.c.T = append(more.c.T[:2:2], more.c.T[0]) // the program has it not
	none(more, 2)
	fewer.c.T = s.c.T[:1] // the configuration has it not
	none(fewer, 1)
	bare.p.Threads = nil
	none(bare, 0)
	none(scene{t, unroll.Program{}, config.Config{}}, 0)
	none(scene{t, unroll.Program{}, s.c}, 0)
	none(scene{t, s.p, config.Config{}}, 0)
	none(made(t, "thread { fence(sc); } exists 1;", 0), 0)
	for i := range 2 {
		if len(s.candidates(i)) == 0 {
			t.Error(i)
		}
	}
}

// P18.1, R2, R3: programs stay as they were, and nothing is left behind: others, asked of between, change no answer.
func TestProgramsStay(t *testing.T) {
	text := "r0 = load(x, rlx); store(y, r0 - 2, rlx);"
	s, fresh := one(t, text), one(t, text)
	for _, other := range []scene{one(t, "r0 = add(y, 1, rlx);", message(y, 3, 4, 6)), one(t, ""), one(t, "store(x, 1, pln);").knowing(cur(upto(x, 1)))} {
		s.makes(ends(y, 5)...)
		other.candidates(0)
	}
	if !reflect.DeepEqual(s.p, fresh.p) {
		t.Error(s.p)
	}
}
