package certify_test

import (
	"math"
	"reflect"
	"slices"
	"testing"

	"troth/api"
	"troth/certify"
	"troth/config"
	"troth/memory"
	"troth/parse"
	"troth/span"
	"troth/step"
	"troth/thread"
	"troth/tview"
	"troth/unroll"
	"troth/view"
)

// nobody owns what is no thread's.
const nobody = -1

// x and y are the places of these two letters.
const (
	x = iota
	y
)

// times are one of each location.
type times = [api.MaxLocations]int

// in is a span that a test knows to be one.
func in(from, to int) span.Span { return span.Span(complex(float64(from), float64(to))) }

// upto is a view that knows of a location a time, both ways.
func upto(loc, to int) view.View { return view.View{Pln: put(loc, to), Rlx: put(loc, to)} }

// put is a time of one location.
func put(loc, at int) (t times) {
	t[loc] = at
	return t
}

// message is one of nobody's.
func message(loc, from, to int, n uint64, v view.View) memory.Item {
	return memory.Item{Loc: loc, S: in(from, to), N: n, V: v, Owner: nobody}
}

// promise is one of a thread's.
func promise(owner, loc, from, to int, n uint64, v view.View) memory.Item {
	return memory.Item{Loc: loc, S: in(from, to), N: n, V: v, Owner: owner}
}

// reserved is a reservation.
func reserved(owner, loc, from, to int) memory.Item {
	return memory.Item{Loc: loc, S: in(from, to), Res: true, Owner: owner}
}

// read, write, fulfil .. are steps with just what their kind uses.
func read(at int) step.Step         { return step.Step{Kind: step.Read, Read: at} }
func write(from, to int) step.Step  { return step.Step{Kind: step.Write, S: in(from, to)} }
func fulfil(from, to int) step.Step { return step.Step{Kind: step.Fulfil, S: in(from, to)} }
func update(from, to int) step.Step { return step.Step{Kind: step.Update, Read: from, S: in(from, to)} }
func redeem(from, to int) step.Step { return step.Step{Kind: step.Redeem, Read: from, S: in(from, to)} }
func cancel(loc, from, to int) step.Step {
	return step.Step{Kind: step.Cancel, Loc: loc, S: in(from, to)}
}

// fence has no more than its kind.
var fence = step.Step{Kind: step.Fence}

// program is that of a text, its loops unrolled so often.
func program(t *testing.T, text string, k int) unroll.Program {
	t.Helper()
	test, at, err := parse.Parse(text)
	if err != api.OK {
		t.Fatal(text, at, err)
	}
	p, err := unroll.Unroll(test, k)
	if err != api.OK {
		t.Fatal(text, err)
	}
	return p
}

// scene is a program, at a configuration of it.
type scene struct {
	*testing.T
	p unroll.Program
	c config.Config
}

// made is a scene of a text, with more items.
func made(t *testing.T, text string, l ...memory.Item) scene {
	t.Helper()
	p := program(t, text, 1)
	return scene{t, p, config.Begin(p)}.with(l...)
}

// one is a scene of one thread of these statements and another one that writes, with x and y, which are 7 and 8 at first, and more items.
func one(t *testing.T, statements string, l ...memory.Item) scene {
	t.Helper()
	return made(t, "init x = 7; init y = 8; thread { "+statements+" } thread { store(x, 1, rlx); } exists x + y;", l...)
}

// with is it with more items.
func (s scene) with(l ...memory.Item) scene {
	s.Helper()
	for _, x := range l {
		m, err := s.c.M.Add(x)
		if err != api.OK {
			s.Fatal(x, err)
		}
		s.c.M = m
	}
	return s
}

// knowing is it with other views of the thread 0.
func (s scene) knowing(v tview.Views) scene {
	s.c = s.c.With(0, config.Thread{S: s.c.T[0].S, V: v})
	return s
}

// cur knows one view as cur and acq.
func cur(v view.View) tview.Views { return tview.Views{Cur: v, Acq: v} }

// told is all that a configuration holds, in lists of a test's own.
type told struct {
	items   [][]memory.Item
	threads []config.Thread
	s       times
}

// tell is what a configuration holds.
func tell(c config.Config) told {
	x := told{threads: append([]config.Thread{}, c.T...), s: c.S}
	for loc := range c.M.Locs() {
		x.items = append(x.items, c.M.List(loc))
	}
	return x
}

// alike tells whether two configurations hold the same.
func alike(a, b config.Config) bool { return reflect.DeepEqual(tell(a), tell(b)) }

// roomy is a configuration whose list of threads has more behind its end, and what stands in all of that list.
func roomy(c config.Config) (config.Config, func() []config.Thread) {
	l := append(append(make([]config.Thread, 0, len(c.T)+2), c.T...), config.Thread{S: thread.State{At: 99}}, config.Thread{})
	c.T = l[:len(c.T)]
	return c, func() []config.Thread { return slices.Clone(l) }
}

// spoil writes to a configuration's threads, as whoever is handed it may.
func spoil(c config.Config) {
	for i := range c.T {
		c.T[i] = config.Thread{S: thread.State{At: 77}}
	}
	_ = append(c.T, config.Thread{S: thread.State{At: 78}})
}

// start is where certifying starts. It sees to it that what was handed in stays, that nobody else has the answer's threads, and that it is the same again.
func (s scene) start() (config.Config, bool) {
	s.Helper()
	c, list := roomy(s.c)
	was, threads := tell(c), list()
	first, is := certify.Start(c)
	held := tell(first)
	spoil(first)
	again, same := certify.Start(c)
	if same != is || !reflect.DeepEqual(tell(again), held) {
		s.Fatal("started again", tell(again), held)
	}
	if !reflect.DeepEqual(tell(c), was) || !slices.Equal(list(), threads) {
		s.Fatal("what was handed in is another one", tell(c), was)
	}
	if !is && !reflect.DeepEqual(held, was) {
		s.Fatal("it can't start, but all is not as it was", held, was)
	}
	return again, is
}

// starts sees to it that certifying starts at these items (behind those at first), with these threads' views, and S.
func (s scene) starts(late times, v []tview.Views, l ...memory.Item) {
	s.Helper()
	got, is := s.start()
	want := scene{s.T, s.p, config.Begin(s.p)}.with(l...).c
	want.S = late
	for i := range v {
		want = want.With(i, config.Thread{S: s.c.T[i].S, V: v[i]})
	}
	if !is || !alike(got, want) {
		s.Errorf("%v %v, not %v", is, tell(got), tell(want))
	}
}

// The limit, and how much room there is for what a thread writes: 32 instructions can write so much that there is some left.
func TestRoom(t *testing.T) {
	if certify.Room != 70 {
		t.Error(certify.Room)
	}
}

// P17.1, P17.3: as the chapter's example shows them.
func TestExample(t *testing.T) {
	s := made(t, "thread { store(x, 1, rlx); } exists x;", promise(0, x, 0, 1, 1, upto(x, 1)))
	s.starts(times{70}, nil, promise(0, x, 0, 70, 1, upto(x, 70)), reserved(nobody, x, 70, 71))
	if l, is := certify.Certify(s.p, s.c, 0); !is || !slices.Equal(l, []step.Step{fulfil(0, 70)}) {
		t.Error(l, is)
	}
}

// P17.1: told by ranks, spread, capped; S is the capped memory's, whatever it was.
func TestStart(t *testing.T) {
	know := tview.Views{
		Cur: view.View{Pln: times{3, 1}, Rlx: times{5, 9}},
		Acq: view.View{Pln: times{5, 9}, Rlx: times{9, 9}},
		Rel: [api.MaxLocations]view.View{x: upto(x, 5), y: {Rlx: times{2, 4}}},
	}
	wide := tview.Views{
		Cur: view.View{Pln: times{70, 0}, Rlx: times{140, 210}},
		Acq: view.View{Pln: times{140, 210}, Rlx: times{280, 210}},
		Rel: [api.MaxLocations]view.View{x: upto(x, 140), y: {Rlx: times{0, 70}}},
	}
	s := one(t, "r0 = load(x, rlx); store(y, r0, rlx);",
		message(x, 3, 5, 5, view.View{}), promise(0, x, 7, 9, 6, upto(x, 9).Join(upto(y, 8))), reserved(1, x, 9, 12), reserved(0, x, 14, 15),
		message(y, 2, 8, 6, upto(y, 8).Join(view.At(x, 5, false))), promise(1, y, 8, 9, 4, view.View{}),
	).knowing(know)
	s.c.T[0].S.R[3] = 70
	for _, late := range []times{{}, {9, 9}, {5, 8, 3, 4}, {-7, 1 << 40, math.MaxInt, math.MinInt}} {
		s.c.S = late
		s.starts(times{280, 210}, []tview.Views{wide, {}},
			reserved(nobody, x, 0, 70), message(x, 70, 140, 5, view.View{}), reserved(nobody, x, 140, 210), promise(0, x, 210, 280, 6, upto(x, 280).Join(upto(y, 140))),
			reserved(1, x, 280, 350), reserved(nobody, x, 350, 420), reserved(0, x, 420, 490), reserved(nobody, x, 490, 491),
			reserved(nobody, y, 0, 70), message(y, 70, 140, 6, upto(y, 140).Join(view.At(x, 140, false))), promise(1, y, 140, 210, 4, view.View{}), reserved(nobody, y, 210, 211))
	}
}

// P17.1: where nothing was done yet, each location is capped behind its first message; of no locations nothing is.
func TestStartAtFirst(t *testing.T) {
	one(t, "store(x, 1, rlx);").starts(times{}, nil, reserved(nobody, x, 0, 1), reserved(nobody, y, 0, 1))
	made(t, "thread { fence(sc); } exists 1;").starts(times{}, nil)
	if c, is := certify.Start(config.Config{}); !is || !alike(c, config.Config{}) {
		t.Error(is, tell(c))
	}
	if c, is := certify.Start(config.Config{S: times{1, 2, 3, 4}}); !is || !alike(c, config.Config{}) {
		t.Error(is, tell(c))
	}
}

// P17.1: at the latest times it starts as elsewhere: told by ranks they are early.
func TestStartAtTheLatestTimes(t *testing.T) {
	const late = span.MaxTime
	s := one(t, "store(x, 1, rlx);", promise(0, x, late-1, late, 1, upto(x, late)), reserved(0, y, 0, late)).knowing(cur(upto(x, late)))
	s.starts(times{140}, []tview.Views{cur(upto(x, 140)), {}},
		reserved(nobody, x, 0, 70), promise(0, x, 70, 140, 1, upto(x, 140)), reserved(nobody, x, 140, 141), reserved(0, y, 0, 70), reserved(nobody, y, 70, 71))
}

// row are so many messages of a location, one behind the other, each so far behind the one ahead.
func row(loc, count, gap int) (l []memory.Item) {
	for i := range count {
		l = append(l, message(loc, i*(gap+1)+gap, (i+1)*(gap+1), 7, view.View{}))
	}
	return l
}

// P17.1: memory that can't be capped: all stays as it was, whichever location has too much, and whatever it has.
func TestStartWhereNoCapFits(t *testing.T) {
	for loc := range 2 {
		for _, c := range []struct {
			l  []memory.Item
			is bool
		}{
			{row(loc, 38, 0), true}, {row(loc, 39, 0), false}, // one behind all of them
			{row(loc, 19, 1), true}, {row(loc, 20, 1), false}, {row(loc, 39, 1), false}, {row(loc, 19, 5), true}, {row(loc, 20, 2), false}, // and one in each gap
			{append(row(loc, 19, 1), reserved(0, loc, 38, 39)), false}, {append(row(loc, 18, 1), reserved(1, loc, 36, 37), promise(0, loc, 37, 38, 1, view.View{})), true},
		} {
			s := one(t, "store(x, 1, rlx);", c.l...).knowing(cur(upto(y, 8)))
			s.c.S = times{4, 5}
			if got, is := s.start(); is != c.is || is && got.M.Locs() != 2 {
				t.Error(loc, len(c.l), is)
			}
		}
	}
}

// P17.1: only the order of times counts.
func TestStartOfSpread(t *testing.T) {
	s := one(t, "r0 = load(x, rlx);", message(x, 2, 5, 5, upto(y, 3)), promise(0, y, 1, 3, 6, upto(y, 3)), reserved(1, y, 3, 4)).knowing(cur(upto(x, 5)))
	want, _ := s.start()
	for _, n := range []int{1, 2, 3, 70, 1000} {
		wide, _ := s.c.Spread(n)
		for _, c := range []config.Config{wide, wide.Ranks()} {
			if got, is := (scene{t, s.p, c}).start(); !is || !alike(got, want) {
				t.Error(n, is, tell(got))
			}
		}
	}
}

// P17.1: a thread's promises are its messages, at all locations; reservations do not count, nor what another one owns, or nobody.
func TestPromises(t *testing.T) {
	none := []memory.Item{message(x, 1, 2, 5, view.View{}), reserved(nobody, y, 1, 2)}
	for _, c := range []struct {
		l    []memory.Item
		want [3]int
	}{
		{nil, [3]int{}},
		{[]memory.Item{promise(0, x, 3, 4, 1, upto(x, 4))}, [3]int{1, 0, 0}},
		{[]memory.Item{promise(1, y, 3, 4, 1, view.View{}), promise(1, y, 4, 5, 1, view.View{}), promise(1, x, 2, 3, 0, view.View{}), promise(2, x, 3, 4, 0, view.View{})}, [3]int{0, 3, 1}},
		{[]memory.Item{reserved(0, x, 3, 4), reserved(0, y, 3, 4), reserved(1, y, 4, 5)}, [3]int{}},
		{[]memory.Item{reserved(0, x, 3, 4), promise(0, x, 4, 5, 1, upto(x, 5)), reserved(2, y, 2, 3), promise(0, y, 3, 4, 1, upto(y, 4)), promise(2, y, 4, 5, 0, view.View{})}, [3]int{2, 0, 1}},
		{[]memory.Item{promise(3, x, 3, 4, 1, upto(x, 4)), reserved(3, y, 3, 4)}, [3]int{}}, // of a thread that there is not
	} {
		s := made(t, "thread { } thread { } thread { } exists x + y;", append(none, c.l...)...)
		was := tell(s.c)
		for i, want := range c.want {
			for range 2 {
				if got := certify.Promises(s.c, i); got != want {
					t.Error(c, i, got)
				}
			}
		}
		for _, i := range []int{-1, -2, 3, 4, 5, math.MinInt, math.MaxInt} {
			if got := certify.Promises(s.c, i); got != 0 {
				t.Error(c, i, got)
			}
		}
		if !reflect.DeepEqual(tell(s.c), was) {
			t.Error("what was handed in is another one", tell(s.c), was)
		}
	}
	alone := made(t, "thread { } exists x;", promise(1, x, 1, 2, 1, upto(x, 2)), promise(2, x, 2, 3, 1, upto(x, 3)), promise(3, x, 3, 4, 1, upto(x, 4)))
	for i := range api.MaxThreads {
		if n := certify.Promises(alone.c, i) + certify.Promises(config.Config{}, i); n != 0 {
			t.Error(i, n)
		}
	}
}
