package step_test

import (
	"reflect"
	"slices"
	"testing"

	"troth/api"
	"troth/config"
	"troth/memory"
	"troth/parse"
	"troth/span"
	"troth/step"
	"troth/thread"
	"troth/tview"
	"troth/unroll"
	"troth/view"
)

// nobody owns what is no thread's.
const nobody = -1

// x and y are the places of these two letters.
const (
	x = iota
	y
)

// times are one of each location.
type times = [api.MaxLocations]int

// in is a span that a test knows to be one.
func in(from, to int) span.Span { return span.Span(complex(float64(from), float64(to))) }

// upto is a view that knows of a location a time, both ways.
func upto(loc, to int) view.View { return view.View{Pln: put(loc, to), Rlx: put(loc, to)} }

// put is a time of one location.
func put(loc, at int) (t times) {
	t[loc] = at
	return t
}

// message is one of nobody's.
func message(loc, from, to int, n uint64, v view.View) memory.Item {
	return memory.Item{Loc: loc, S: in(from, to), N: n, V: v, Owner: nobody}
}

// promise is one of a thread's.
func promise(owner, loc, from, to int, n uint64, v view.View) memory.Item {
	return memory.Item{Loc: loc, S: in(from, to), N: n, V: v, Owner: owner}
}

// reserved is a reservation.
func reserved(owner, loc, from, to int) memory.Item {
	return memory.Item{Loc: loc, S: in(from, to), Res: true, Owner: owner}
}

// program is that of a text, its loops unrolled so often.
func program(t *testing.T, text string, k int) unroll.Program {
	t.Helper()
	test, at, err := parse.Parse(text)
	if err != api.OK {
		t.Fatal(text, at, err)
	}
	p, err := unroll.Unroll(test, k)
	if err != api.OK {
		t.Fatal(text, err)
	}
	return p
}

// scene is a program, at a configuration of it.
type scene struct {
	*testing.T
	p unroll.Program
	c config.Config
}

// one is a scene of one thread of these statements and another one that writes, with x and y, which are 7 and 8 at first, and more items.
func one(t *testing.T, statements string, l ...memory.Item) scene {
	t.Helper()
	return made(t, "init x = 7; init y = 8; thread { "+statements+" } thread { store(x, 1, rlx); } exists x + y;", l...)
}

// made is a scene of a text, with more items.
func made(t *testing.T, text string, l ...memory.Item) scene {
	t.Helper()
	p := program(t, text, 0)
	return scene{t, p, config.Begin(p)}.with(l...)
}

// with is it with more items.
func (s scene) with(l ...memory.Item) scene {
	s.Helper()
	for _, x := range l {
		m, err := s.c.M.Add(x)
		if err != api.OK {
			s.Fatal(x, err)
		}
		s.c.M = m
	}
	return s
}

// knowing is it with other views of the thread 0.
func (s scene) knowing(v tview.Views) scene {
	s.c = s.c.With(0, config.Thread{S: s.c.T[0].S, V: v})
	return s
}

// cur knows one view as cur and acq.
func cur(v view.View) tview.Views { return tview.Views{Cur: v, Acq: v} }

// told is all that a configuration holds, in lists of a test's own.
type told struct {
	items   [][]memory.Item
	threads []config.Thread
	s       times
}

// tell is what a configuration holds.
func tell(c config.Config) told {
	x := told{threads: append([]config.Thread{}, c.T...), s: c.S}
	for loc := range c.M.Locs() {
		x.items = append(x.items, c.M.List(loc))
	}
	return x
}

// do does a step, and sees to it that what was handed in stays, and that nobody else has the answer's threads.
func (s scene) do(i int, x step.Step) (config.Config, bool) {
	s.Helper()
	s.c.T = append(append(make([]config.Thread, 0, len(s.c.T)+3), s.c.T...), config.Thread{S: thread.State{At: 99}}, config.Thread{})[:len(s.c.T)]
	was, room := tell(s.c), slices.Clone(s.c.T[:cap(s.c.T)])
	next, is := step.Do(s.p, s.c, i, x)
	first := tell(next)
	for j := range next.T {
		next.T[j].S.At = 77
	}
	_ = append(next.T, config.Thread{S: thread.State{At: 78}})
	if !reflect.DeepEqual(tell(s.c), was) || !slices.Equal(s.c.T[:cap(s.c.T)], room) {
		s.Fatal(x, "what was handed in is another one", tell(s.c), was)
	}
	again, same := step.Do(s.p, s.c, i, x)
	if same != is || !reflect.DeepEqual(tell(again), first) {
		s.Fatal(x, "done again", tell(again), first)
	}
	if !is && !reflect.DeepEqual(first, was) {
		s.Fatal(x, "can't be done, but all is not as it was", first, was)
	}
	return again, is
}

// can is the scene behind a step of the thread 0 that can be done.
func (s scene) can(x step.Step) scene {
	s.Helper()
	next, is := s.do(0, x)
	if !is {
		s.Errorf("%v can't be done at %v", x, tell(s.c))
	}
	s.c = next
	return s
}

// cannot sees to it that steps of the thread 0 can't be done.
func (s scene) cannot(l ...step.Step) {
	s.Helper()
	for _, x := range l {
		if _, is := s.do(0, x); is {
			s.Errorf("%v can be done at %v", x, tell(s.c))
		}
	}
}

// is sees to it that the scene has these items of x and of y, behind those at first, this thread 0, and S; the other thread is as at first.
func (s scene) is(me config.Thread, late times, l ...memory.Item) {
	s.Helper()
	want := scene{s.T, s.p, config.Begin(s.p)}.with(l...)
	want.c = want.c.With(0, me)
	want.c.S = late
	if !reflect.DeepEqual(tell(s.c), tell(want.c)) {
		s.Errorf("%v, not %v", tell(s.c), tell(want.c))
	}
}

// state is a place, and registers.
func state(at int, r ...uint64) (s thread.State) {
	s.At = at
	copy(s.R[:], r)
	return s
}

// read, write, fulfil .. are steps with just what their kind uses.
func read(at int) step.Step         { return step.Step{Kind: step.Read, Read: at} }
func write(from, to int) step.Step  { return step.Step{Kind: step.Write, S: in(from, to)} }
func fulfil(from, to int) step.Step { return step.Step{Kind: step.Fulfil, S: in(from, to)} }
func update(from, to int) step.Step { return step.Step{Kind: step.Update, Read: from, S: in(from, to)} }
func redeem(from, to int) step.Step { return step.Step{Kind: step.Redeem, Read: from, S: in(from, to)} }
func cancel(loc, from, to int) step.Step {
	return step.Step{Kind: step.Cancel, Loc: loc, S: in(from, to)}
}
func reserve(loc, from, to int) step.Step {
	return step.Step{Kind: step.Reserve, Loc: loc, S: in(from, to)}
}
func vow(loc, from, to int, n uint64, v view.View) step.Step {
	return step.Step{Kind: step.Promise, Loc: loc, S: in(from, to), N: n, V: v}
}

// fence has no more than its kind.
var fence = step.Step{Kind: step.Fence}

// P16.1, P16.2, as the chapter's example shows them.
func TestExample(t *testing.T) {
	s := made(t, "thread { r0 = load(x, rlx); store(y, r0, rel); } exists 0:r0;")
	if l := step.Moves(s.p, s.c, 0); !slices.Equal(l, []step.Step{read(0)}) {
		t.Error(l)
	}
	s = s.can(read(0))
	if l := step.Moves(s.p, s.c, 0); !slices.Equal(l, []step.Step{write(0, 1), write(1, 2)}) {
		t.Error(l)
	}
	for _, w := range []step.Step{write(0, 1), write(1, 2)} {
		if l := step.Moves(s.p, s.can(w).c, 0); len(l) != 0 {
			t.Error(l)
		}
	}
}

// The kinds count on from 1, in the chapter's order.
func TestKinds(t *testing.T) {
	l := []uint8{step.Read, step.Write, step.Fulfil, step.Update, step.Redeem, step.Fence, step.Cancel, step.Promise, step.Reserve}
	if !slices.Equal(l, []uint8{1, 2, 3, 4, 5, 6, 7, 8, 9}) {
		t.Error(l)
	}
}

// P16.1: a Load reads what ends there, by its mode; its register gets the number.
func TestReadOfLoad(t *testing.T) {
	v := upto(y, 2).Join(upto(x, 3))
	l := []memory.Item{message(x, 1, 3, 5, v), promise(1, x, 4, 5, 6, view.View{}), promise(0, x, 5, 6, 9, view.View{}), reserved(0, x, 6, 8), message(y, 0, 2, 3, view.View{})}
	for mode, want := range map[string]tview.Views{
		"pln": {Cur: view.At(x, 3, false), Acq: view.At(x, 3, false)},
		"rlx": {Cur: upto(x, 3), Acq: v},
		"acq": {Cur: v, Acq: v},
	} {
		s := one(t, "r2 = load(x, "+mode+"); store(y, r2, rlx);", l...)
		s.can(read(3)).is(config.Thread{S: state(0, 0, 0, 5), V: want}, times{}, l...)
		s.can(read(5)).is(config.Thread{S: state(0, 0, 0, 6), V: cur(view.At(x, 5, mode != "pln"))}, times{}, l...) // what another one promised is there to be read
		s.can(read(6)).is(config.Thread{S: state(0, 0, 0, 9), V: cur(view.At(x, 6, mode != "pln"))}, times{}, l...) // and what itself promised
		s.can(read(0)).is(config.Thread{S: state(0, 0, 0, 7)}, times{}, l...)
		s.cannot(read(-1), read(1), read(2), read(4), read(7), read(8), read(9), read(1<<40)) // no message ends there
		s.knowing(cur(view.At(x, 3, false))).can(read(3))
	}
}

// P16.1: what is known already isn't read anew: by Pln as pln tells, else as rlx does.
func TestReadOfWhatIsPast(t *testing.T) {
	l := []memory.Item{message(x, 0, 1, 5, view.View{}), message(x, 1, 2, 6, view.View{}), message(y, 0, 1, 7, view.View{})}
	known := view.View{Pln: put(x, 1), Rlx: put(x, 2)}
	for _, mode := range []string{"pln", "rlx", "acq"} {
		s := one(t, "r0 = load(x, "+mode+");", l...).knowing(cur(known))
		s.can(read(2))
		s.cannot(read(0))
		if mode == "pln" {
			s.can(read(1))
		} else {
			s.cannot(read(1))
		}
		s.knowing(tview.Views{Acq: known, Rel: [api.MaxLocations]view.View{known, known}}).can(read(0)) // cur alone counts
		s.knowing(cur(upto(y, 1))).can(read(0))
	}
}

// P16.1: a Cas that does not write reads, by Acq or Ar as Acq, else as Rlx; one that writes does not, nor does what is no Load and no Cas.
func TestReadOfCas(t *testing.T) {
	v := upto(y, 2).Join(upto(x, 3))
	l := []memory.Item{message(x, 1, 3, 5, v), message(y, 0, 2, 3, view.View{})}
	for mode, strong := range map[string]bool{"rlx": false, "acq": true, "rel": false, "ar": true} {
		want := tview.Views{Cur: upto(x, 3), Acq: v}
		if strong {
			want.Cur = v
		}
		s := one(t, "r1 = cas(x, 7, 1, "+mode+"); r0 = 4;", l...)
		s.can(read(3)).is(config.Thread{S: state(-1, 4, 5), V: want}, times{}, l...)
		s.cannot(read(0), read(1), read(2))
		s.knowing(cur(upto(x, 4))).cannot(read(3))
		s = one(t, "r1 = cas(x, 5, 1, "+mode+");", l...)
		s.can(read(0)).is(config.Thread{S: state(-1, 0, 7)}, times{}, l...)
		s.cannot(read(3))
		one(t, "r1 = cas(x, 6, 6, "+mode+");", l...).with(promise(0, x, 3, 4, 8, upto(x, 4))).can(read(3)) // what is promised plays no part
		one(t, "r1 = swap(x, 7, "+mode+");", l...).cannot(read(0), read(3))
		one(t, "r1 = add(x, 0, "+mode+");", l...).cannot(read(0), read(3))
	}
	for _, text := range []string{"store(x, 7, rlx);", "store(x, 7, pln);", "store(x, 7, rel);", "fence(acq);", "fence(sc);", ""} {
		one(t, text, l...).cannot(read(0), read(3))
	}
}

// before is what a thread knows that did a lot already; with a rel that knows of y more than cur's of x, so that rels differ.
func before() tview.Views {
	return tview.Views{
		Cur: upto(y, 3).Join(view.At(x, 2, false)),
		Acq: upto(y, 3).Join(upto(x, 4)),
		Rel: [api.MaxLocations]view.View{x: upto(y, 1), y: upto(y, 3)},
	}
}

// P16.1: a Store puts its message: by each mode, with the view that is told so.
func TestWrite(t *testing.T) {
	l := []memory.Item{message(x, 1, 2, 5, view.View{}), message(x, 3, 4, 5, view.View{}), message(y, 0, 1, 1, view.View{}), message(y, 1, 3, 2, view.View{})}
	all := upto(y, 3).Join(upto(x, 6))
	for mode, want := range map[string]struct{ message, rel view.View }{
		"pln": {view.View{}, upto(y, 1).Join(upto(x, 6))},
		"rlx": {upto(y, 1).Join(upto(x, 6)), upto(y, 1).Join(upto(x, 6))},
		"rel": {all, all},
	} {
		s := one(t, "store(x, r1 + 2, "+mode+"); r0 = load(x, rlx);", l...).knowing(before())
		s.c.T[0].S.R = state(0, 3, 40).R
		me := config.Thread{S: state(0, 3, 40), V: tview.Views{Cur: all, Acq: all, Rel: [api.MaxLocations]view.View{want.rel, upto(y, 3)}}}
		s.can(write(4, 6)).is(me, times{}, append(l, message(x, 4, 6, 42, want.message))...)
		s.can(write(5, 6)).is(me, times{}, append(l, message(x, 5, 6, 42, want.message))...)
		s.can(write(2, 3))
		s.cannot(write(0, 1), write(1, 2), write(2, 4), write(3, 4), write(3, 6), write(0, 9)) // in the way of others, or known already
		if one(t, "store(x, 1, "+mode+");", l...).can(write(0, 1)).c.M.List(x)[1].N != 1 {
			t.Error(mode)
		}
	}
	for _, text := range []string{"r0 = load(x, rlx);", "r0 = swap(x, 1, rlx);", "r0 = add(x, 1, ar);", "r0 = cas(x, 0, 1, rlx);", "r0 = cas(x, 7, 1, rel);", "fence(rel);", ""} {
		one(t, text).cannot(write(0, 1), write(1, 2), fulfil(0, 1), step.Step{Kind: step.Write}, step.Step{Kind: step.Fulfil})
	}
}

// P16.1: whoever owns what is in the way, it is in the way; and what holds no time, or would not be known as later, is not written.
func TestWriteWhereThereIsRoom(t *testing.T) {
	for _, mode := range []string{"pln", "rlx", "rel"} {
		for _, z := range []memory.Item{message(x, 2, 4, 1, view.View{}), promise(0, x, 2, 4, 1, view.View{}), promise(1, x, 2, 4, 1, view.View{}), reserved(0, x, 2, 4), reserved(1, x, 2, 4), reserved(nobody, x, 2, 4)} {
			s := one(t, "store(x, 1, "+mode+");", z)
			s.cannot(write(0, 3), write(2, 4), write(2, 3), write(3, 4), write(3, 5), write(1, 5), write(0, 0), write(4, 4), write(4, 3))
			s.can(write(0, 2))
			s.can(write(1, 2))
			s.can(write(4, 5))
			s.can(write(5, 9))
			s.can(write(4, span.MaxTime))
			s.can(write(span.MaxTime-1, span.MaxTime))
			s.cannot(write(4, span.MaxTime+1), write(span.MaxTime, span.MaxTime+1))
			s = s.knowing(cur(view.View{Rlx: put(x, 5)}))
			s.cannot(write(0, 1), write(0, 2), write(4, 5))
			s.can(write(4, 6))
			s.knowing(cur(upto(y, 9))).can(write(0, 2))
		}
		one(t, "store(y, 1, "+mode+");", message(x, 0, 4, 1, view.View{})).can(write(0, 3))
	}
}

// P16.1: by Rel nothing is written where one's own promise at that location has a view; by other modes it is, and where it is elsewhere, or another thread's, or has none.
func TestWriteByRel(t *testing.T) {
	for _, c := range []struct {
		is bool
		l  []memory.Item
	}{
		{true, nil},
		{false, []memory.Item{promise(0, x, 2, 3, 1, upto(x, 3))}},
		{false, []memory.Item{promise(0, x, 2, 3, 1, view.View{Rlx: put(x, 1)})}},
		{false, []memory.Item{promise(0, x, 2, 3, 1, upto(y, 1))}},
		{false, []memory.Item{promise(0, x, 2, 3, 1, view.View{}), promise(0, x, 4, 5, 1, upto(x, 5))}},
		{false, []memory.Item{promise(0, x, 2, 3, 1, upto(x, 3)), promise(0, x, 4, 5, 1, view.View{})}},
		{true, []memory.Item{promise(0, x, 2, 3, 1, view.View{}), promise(0, x, 4, 5, 1, view.View{})}},
		{true, []memory.Item{promise(0, y, 2, 3, 1, upto(y, 3))}},
		{true, []memory.Item{promise(1, x, 2, 3, 1, upto(x, 3))}},
		{true, []memory.Item{message(x, 2, 3, 1, upto(x, 3))}},
		{true, []memory.Item{reserved(0, x, 2, 3)}},
	} {
		for _, mode := range []string{"pln", "rlx", "rel"} {
			s := one(t, "store(x, 9, "+mode+");", c.l...)
			if c.is || mode != "rel" {
				s.can(write(0, 1))
				s.can(write(7, 8))
			} else {
				s.cannot(write(0, 1), write(7, 8))
			}
		}
		for _, kind := range []string{"swap(x, 9, ", "add(x, 9, ", "cas(x, 7, 9, "} {
			for _, mode := range []string{"rlx", "acq", "rel", "ar"} {
				s := one(t, "r0 = "+kind+mode+");", c.l...)
				if c.is || mode == "rlx" || mode == "acq" {
					s.can(update(0, 1))
				} else {
					s.cannot(update(0, 1))
				}
			}
		}
	}
}

// P16.1: a promise is kept by a Store of just its span, number and view.
func TestFulfil(t *testing.T) {
	told := upto(y, 1).Join(upto(x, 6))
	l := []memory.Item{message(x, 1, 2, 5, view.View{}), message(y, 0, 3, 2, view.View{}), promise(0, y, 4, 6, 42, upto(y, 6))}
	all := upto(y, 3).Join(upto(x, 6))
	for mode, v := range map[string]view.View{"pln": {}, "rlx": told} {
		s := one(t, "store(x, r1 + 2, "+mode+"); r0 = load(x, rlx);").knowing(before())
		s.c.T[0].S.R = state(0, 3, 40).R
		me := config.Thread{S: state(0, 3, 40), V: tview.Views{Cur: all, Acq: all, Rel: [api.MaxLocations]view.View{told, upto(y, 3)}}}
		s.with(l...).with(promise(0, x, 4, 6, 42, v)).can(fulfil(4, 6)).is(me, times{}, append(l, message(x, 4, 6, 42, v))...)
		for _, z := range []memory.Item{
			promise(0, x, 4, 6, 41, v),                   // another number
			promise(0, x, 4, 6, 42, v.Join(upto(y, 2))),  // another view
			promise(0, x, 4, 6, 42, view.At(x, 6, true)), // less of one
			promise(1, x, 4, 6, 42, v),                   // another owner
			message(x, 4, 6, 42, v),                      // nobody's
			promise(0, x, 3, 6, 42, v),                   // another span: earlier, later, longer, shorter
			promise(0, x, 5, 6, 42, v),
			promise(0, x, 4, 7, 42, v),
			promise(0, x, 4, 5, 42, v),
			promise(0, x, 6, 8, 42, v),
			reserved(0, x, 4, 6), // no message
		} {
			s.with(l...).with(z).cannot(fulfil(4, 6))
		}
		s.with(l...).cannot(fulfil(4, 6))
		s.with(l...).with(promise(0, x, 4, 6, 42, v)).cannot(write(4, 6), fulfil(3, 6), fulfil(5, 6), fulfil(4, 5), redeem(4, 6), fulfil(0, 0), fulfil(1, 2))
		late := before()
		late.Cur = late.Cur.Join(upto(x, 6))
		s.with(l...).with(promise(0, x, 4, 6, 42, v)).knowing(late).cannot(fulfil(4, 6)) // it is known already
	}
}

// P16.1: by Rel a message always has a view: so no promise is ever kept so, with a view or with none.
func TestFulfilByRel(t *testing.T) {
	for _, v := range []view.View{{}, upto(x, 2), view.At(x, 2, false)} {
		one(t, "store(x, 1, rel);", promise(0, x, 1, 2, 1, v)).cannot(fulfil(1, 2))
		one(t, "r0 = swap(x, 1, rel);", promise(0, x, 0, 2, 1, v)).cannot(redeem(0, 2))
		one(t, "r0 = swap(x, 1, ar);", promise(0, x, 0, 2, 1, v)).cannot(redeem(0, 2))
	}
	one(t, "store(x, 1, pln);", promise(0, x, 1, 2, 1, view.View{})).can(fulfil(1, 2))
	one(t, "store(x, 1, rlx);", promise(0, x, 1, 2, 1, upto(x, 2))).can(fulfil(1, 2))
	one(t, "store(x, 1, pln);", promise(0, x, 1, 2, 1, upto(x, 2))).cannot(fulfil(1, 2))
	one(t, "store(x, 1, rlx);", promise(0, x, 1, 2, 1, view.View{})).cannot(fulfil(1, 2))
}
