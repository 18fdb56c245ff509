package step_test

import (
	"math"
	"reflect"
	"slices"
	"testing"

	"troth/api"
	"troth/config"
	"troth/memory"
	"troth/prog"
	"troth/span"
	"troth/step"
	"troth/thread"
	"troth/tview"
	"troth/unroll"
	"troth/view"
)

// deed is a step that can be done at a scene.
type deed struct {
	scene
	s step.Step
}

// deeds are some of each kind, of the thread 0.
func deeds(t *testing.T) []deed {
	t.Helper()
	own := promise(0, x, 2, 3, 5, upto(x, 3))
	return []deed{
		{one(t, "r0 = load(x, acq);", own), read(3)},
		{one(t, "r0 = cas(y, 7, 1, rel);"), read(0)},
		{one(t, "store(y, 5, rel);", own), write(0, 1)},
		{one(t, "store(x, 5, rlx);", own), write(0, 1)},
		{one(t, "store(x, 5, rlx);", own), fulfil(2, 3)},
		{one(t, "r0 = swap(x, 5, rlx);", own), update(0, 1)},
		{one(t, "r0 = add(x, 1, acq);", own), update(3, 5)},
		{one(t, "r0 = cas(y, 8, 1, ar);", own), update(0, 5)},
		{one(t, "r0 = swap(x, 5, acq);", own, message(x, 1, 2, 9, view.View{})), redeem(2, 3)},
		{one(t, "fence(acq);", own), fence},
		{one(t, "fence(sc);", reserved(0, x, 1, 2)), fence},
		{one(t, "", own, reserved(0, y, 1, 2)), cancel(y, 1, 2)},
		{one(t, "store(y, 1, rlx); store(y, 1, rlx);", own), vow(y, 1, 3, 4, upto(y, 3))},
		{one(t, "r0 = swap(y, 1, rlx);", own), reserve(y, 0, 3)},
	}
}

// P16.1: what a kind does not use plays no part, whether the step can be done or not.
func TestWhatIsNotUsed(t *testing.T) {
	nan := span.Span(complex(math.NaN(), math.Inf(1)))
	loc := func(s step.Step, n int) step.Step { s.Loc = n; return s }
	reads := func(s step.Step, n int) step.Step { s.Read = n; return s }
	spans := func(s step.Step, at span.Span) step.Step { s.S = at; return s }
	number := func(s step.Step, n uint64) step.Step { s.N = n; return s }
	views := func(s step.Step, v view.View) step.Step { s.V = v; return s }
	for _, d := range deeds(t) {
		var l []step.Step
		if d.s.Kind < step.Cancel {
			l = append(l, loc(d.s, 1-d.s.Loc), loc(d.s, -1), loc(d.s, 1), loc(d.s, 2), loc(d.s, api.MaxLocations), loc(d.s, math.MaxInt), loc(d.s, math.MinInt))
		}
		if k := d.s.Kind; k != step.Read && k != step.Update && k != step.Redeem {
			l = append(l, reads(d.s, 1), reads(d.s, 3), reads(d.s, -1), reads(d.s, math.MaxInt), reads(d.s, math.MinInt))
		}
		if d.s.Kind == step.Read || d.s.Kind == step.Fence {
			l = append(l, spans(d.s, in(1, 2)), spans(d.s, in(3, 4)), spans(d.s, nan), spans(d.s, -1), spans(d.s, 0.5+1i), spans(d.s, in(9, 2)))
		}
		if d.s.Kind != step.Promise {
			l = append(l, number(d.s, 1), number(d.s, 5), number(d.s, math.MaxUint64), views(d.s, upto(x, 1)), views(d.s, upto(x, 99)), views(d.s, view.View{Pln: put(y, 7), Rlx: put(y, -7)}))
		}
		want := tell(d.can(d.s).c)
		for _, s := range l {
			if got := tell(d.can(s).c); !reflect.DeepEqual(got, want) {
				t.Errorf("%v: %v, not %v", s, got, want)
			}
		}
	}
	one(t, "store(x, 1, rlx);", message(x, 0, 1, 5, view.View{})).cannot(loc(write(0, 1), y)) // it is of the access's location
	one(t, "r0 = load(x, rlx);", message(y, 0, 1, 5, view.View{})).cannot(loc(read(1), y))
	one(t, "store(x, 1, rlx);", promise(0, y, 0, 1, 1, upto(y, 1))).cannot(loc(fulfil(0, 1), y))
}

// P16.1, P16.2: a program stays as it was, too, and nothing is left behind: another one, used before, changes no answer.
func TestProgramsStay(t *testing.T) {
	l, fresh := deeds(t), deeds(t)
	for i, d := range l {
		want := tell(d.can(d.s).c)
		for _, other := range l {
			other.can(other.s)
			step.Moves(other.p, other.c, 0)
		}
		if got := tell(fresh[i].can(d.s).c); !reflect.DeepEqual(got, want) {
			t.Errorf("%v: %v, not %v", d.s, got, want)
		}
		if !reflect.DeepEqual(d.p, fresh[i].p) {
			t.Error(d.p)
		}
	}
}

// P16.1: what a kind uses does play a part.
func TestWhatIsUsed(t *testing.T) {
	for _, d := range deeds(t) {
		var l []step.Step
		put := func(change func(s *step.Step)) {
			s := d.s
			change(&s)
			l = append(l, s)
		}
		if k := d.s.Kind; k != step.Read && k != step.Fence {
			for _, at := range wrong() {
				put(func(s *step.Step) { s.S = at })
			}
		}
		if k := d.s.Kind; k == step.Read || k == step.Update || k == step.Redeem {
			for _, at := range []int{-1, 4, 1 << 40, -1 << 40, d.s.Read + 1, d.s.Read - 1, span.MaxTime} {
				put(func(s *step.Step) { s.Read = at })
			}
		}
		if d.s.Kind >= step.Cancel {
			for _, at := range []int{-1, 2, 3, api.MaxLocations, 1 << 40, -1 << 40} {
				put(func(s *step.Step) { s.Loc = at })
			}
		}
		d.cannot(l...)
	}
}

// wrong are spans that may not be, and such as hold no time.
func wrong() []span.Span {
	nan, inf := math.NaN(), math.Inf(1)
	return []span.Span{
		0, 1, 1 + 1i, 3 + 3i, 3 + 1i, -1, -1i, -1 + 1i, -1 - 1i, 1 - 1i, 0.5i, 0.5 + 1i, 0.5 + 1.5i, 1.5i, 2.5 + 3i,
		span.MaxTime + (span.MaxTime+1)*1i, (span.MaxTime + 1) * 1i, 3 + (span.MaxTime+1)*1i, 1e300i,
		span.Span(complex(nan, 1)), span.Span(complex(0, nan)), span.Span(complex(nan, nan)), span.Span(complex(0, inf)), span.Span(complex(-inf, 1)), span.Span(complex(inf, inf)),
	}
}

// P16.1, P16.2: of a thread that there is not, in the program or in the configuration, nothing can be done.
func TestNoSuchThread(t *testing.T) {
	for _, d := range deeds(t) {
		for _, i := range []int{-1, -2, 2, 3, api.MaxThreads, math.MaxInt, math.MinInt} {
			if _, is := d.do(i, d.s); is {
				t.Error(i, d.s)
			}
			if l := step.Moves(d.p, d.c, i); len(l) != 0 {
				t.Error(i, l)
			}
		}
		fewer := d.scene // the configuration has it not
		fewer.c.T = d.c.T[:0]
		fewer.cannot(d.s)
		if _, is := fewer.do(1, d.s); is || len(step.Moves(fewer.p, fewer.c, 1)) != 0 {
			t.Error(d.s)
		}
		bare := d.scene // the program has it not
		bare.p.Threads = nil
		bare.cannot(d.s)
		none := scene{d.T, unroll.Program{}, config.Config{}}
		none.cannot(d.s)
		for _, s := range []scene{fewer, bare, none} {
			if l := step.Moves(s.p, s.c, 0); len(l) != 0 {
				t.Error(l)
			}
		}
		d.c.T, d.p.Threads = append(d.c.T[:1:1], config.Thread{}, d.c.T[0]), d.p.Threads[:1]
		d.can(d.s)
		for i := 1; i < 4; i++ {
			if _, is := d.do(i, d.s); is || len(step.Moves(d.p, d.c, i)) != 0 {
				t.Error(i, d.s)
			}
		}
	}
}

// P16.1: each thread goes by its own code and owns what is its own; the other ones stay as they are.
func TestEachThread(t *testing.T) {
	text := "init x = 7; init y = 8; thread { store(x, 1, rlx); } thread { r0 = load(y, rlx); store(x, 2, rlx); } thread { r0 = swap(x, 3, rlx); } exists x;"
	s := made(t, text, promise(1, x, 4, 5, 2, upto(x, 5)), reserved(2, y, 0, 1))
	for _, c := range []struct {
		i  int
		s  step.Step
		is bool
	}{
		{0, write(0, 1), true}, {0, read(0), false}, {0, cancel(y, 0, 1), false}, {0, fulfil(4, 5), false},
		{1, read(0), true}, {1, write(0, 1), false}, {1, cancel(y, 0, 1), false}, {1, vow(x, 0, 1, 1, upto(x, 1)), false}, {1, reserve(x, 0, 1), false},
		{2, update(0, 1), true}, {2, update(5, 6), true}, {2, cancel(y, 0, 1), true}, {2, reserve(x, 0, 1), false}, {2, vow(x, 0, 1, 3, view.View{}), true},
	} {
		next, is := s.do(c.i, c.s)
		if is != c.is {
			t.Error(c, is)
		}
		for j, other := range next.T {
			if j != c.i && other != s.c.T[j] {
				t.Error(c, j, other)
			}
		}
		if len(next.T) != 3 || is && c.s.Kind < step.Cancel && next.T[c.i] == s.c.T[c.i] {
			t.Error(c, next.T)
		}
	}
	s.c, _ = s.do(1, read(0))
	next, is := s.do(1, fulfil(4, 5))
	if z, _ := next.M.At(x, 5); !is || z != message(x, 4, 5, 2, upto(x, 5)) {
		t.Error(is, z)
	}
	next, is = s.do(2, vow(x, 0, 1, 3, upto(x, 1)))
	if z, _ := next.M.At(x, 1); !is || z != promise(2, x, 0, 1, 3, upto(x, 1)) {
		t.Error(is, z)
	}
}

// P16.1: kinds that are none.
func TestNoSuchKind(t *testing.T) {
	for _, d := range deeds(t) {
		for kind := range 256 {
			if kind < 1 || kind > 9 {
				s := d.s
				s.Kind = uint8(kind)
				d.cannot(s)
			}
		}
		for kind := step.Read; kind <= step.Fence; kind++ { // those of other accesses
			s := d.s
			s.Kind = kind
			if d.s.Kind < step.Cancel && kind != d.s.Kind {
				d.cannot(s)
			}
		}
	}
}

// P16.1, P16.2: a thread that has ended, is stuck, or is elsewhere than at an access does nothing but give up a reservation.
func TestAtNoAccess(t *testing.T) {
	l := []memory.Item{message(x, 0, 1, 5, view.View{}), promise(0, x, 1, 2, 1, upto(x, 2)), reserved(0, x, 2, 3)}
	see := func(s scene) {
		t.Helper()
		s.cannot(read(0), read(1), read(2), write(3, 4), write(4, 5), fulfil(1, 2), update(1, 2), update(2, 3), redeem(1, 2), fence, step.Step{Kind: step.Read}, step.Step{Kind: step.Write}, step.Step{Kind: step.Update})
		if l := step.Moves(s.p, s.c, 0); !slices.Equal(l, []step.Step{cancel(x, 2, 3)}) {
			t.Error(l)
		}
		s.can(cancel(x, 2, 3))
	}
	ended := one(t, "", l...)
	see(ended)
	ended.cannot(vow(x, 4, 5, 1, view.View{}), reserve(x, 1, 2))
	stuck := one(t, "while (1) { store(x, 1, rlx); r0 = swap(x, 1, rlx); }", l...)
	see(stuck)
	stuck.cannot(vow(x, 4, 5, 1, view.View{}), reserve(x, 1, 2))
	for _, at := range []int{-2, 3, 99, math.MinInt, math.MaxInt} {
		gone := one(t, "store(x, 1, rlx); r0 = swap(x, 1, rlx); fence(sc);", l...)
		gone.c.T[0].S.At = at
		see(gone)
		gone.cannot(vow(x, 4, 5, 1, view.View{}), reserve(x, 1, 2))
	}
	elsewhere := one(t, "if (r0) { store(x, 1, rlx); } r0 = 1; store(x, 2, rlx);", l...) // a Branch, and a Set: of such no call is asked, but none is an access
	for at := range len(elsewhere.p.Threads[0].Code) {
		if k := elsewhere.p.Threads[0].Code[at].Kind; k == prog.Set || k == unroll.Branch {
			elsewhere.c.T[0].S.At = at
			see(elsewhere)
		}
	}
}

// P16.1, P16.2: the memory has none of the program's locations, or fewer: nothing can be done there.
func TestNoSuchLocation(t *testing.T) {
	for _, text := range []string{"r0 = load(y, rlx);", "store(y, 8, rlx);", "store(y, 8, rel);", "r0 = swap(y, 1, rlx);", "r0 = cas(y, 1, 1, rlx);", "r0 = cas(y, 0, 0, rlx);"} {
		for locs := range 2 {
			s := one(t, text)
			s.c.M, _ = memory.Begin(make([]uint64, locs))
			s.cannot(read(0), read(1), write(0, 1), write(1, 2), fulfil(0, 1), update(0, 1), redeem(0, 1), fence, cancel(y, 0, 1), vow(y, 0, 1, 8, view.View{}), reserve(y, 0, 1))
			if l := step.Moves(s.p, s.c, 0); len(l) != 0 {
				t.Error(l)
			}
		}
	}
}

// P16.1, P16.2: nothing that is handed in makes a call panic: any numbers, and code and states that are none.
func TestAnything(t *testing.T) {
	odd := []int{math.MinInt, -1 << 33, -2, -1, 0, 1, 2, 3, 4, 5, 40, 1 << 20, 1 << 33, math.MaxInt}
	for _, loc := range []int{math.MinInt, -1, 0, 3, 4, math.MaxInt} {
		for kind := range uint8(11) {
			p := unroll.Program{Threads: []unroll.Thread{{Code: []unroll.Instr{{Kind: kind, Mode: api.Rlx, Loc: loc, Reg: 200, Next: -1, Else: -1}, {Kind: kind, Mode: 9, Loc: loc, Next: 7, Else: 1}}}}}
			for at := range 3 {
				for _, early := range []int{-5, 5} {
					v := cur(view.Flat(times{early, early, early, early}))
					c := config.Config{T: []config.Thread{{S: thread.State{At: at}, V: v}}}
					for _, locs := range []int{0, 1, api.MaxLocations} {
						c.M, _ = memory.Begin(make([]uint64, locs))
						for k := range uint8(11) {
							for j, n := range odd {
								s := step.Step{Kind: k, Loc: n, Read: n, S: append(wrong(), in(0, 1), in(1, 2))[j%4], V: view.View{Rlx: put(0, n)}}
								next, is := step.Do(p, c, 0, s)
								if !is && next.Key() != c.Key() {
									t.Fatal(s, tell(next))
								}
							}
						}
						for _, s := range step.Moves(p, c, 0) {
							if _, is := step.Do(p, c, 0, s); !is {
								t.Fatal(s)
							}
						}
					}
				}
			}
		}
	}
}

// P16.1: views that a test made by hand, with times below 0, let nothing be written where nothing holds a time.
func TestTimesBelowZero(t *testing.T) {
	below := tview.Views{Cur: view.Flat(times{-9, -9, -9, -9})}
	one(t, "store(x, 7, rlx);").knowing(below).cannot(write(0, 0), fulfil(0, 0), step.Step{Kind: step.Write, S: -1 + 1i})
	one(t, "r0 = swap(x, 7, rlx);").knowing(below).cannot(update(0, 0), redeem(0, 0), step.Step{Kind: step.Update, S: 1 + 1i}, step.Step{Kind: step.Update, S: -1 + 1i})
	one(t, "r0 = load(x, rlx);").knowing(below).cannot(read(-1), read(-9))
}
