package step_test

import (
	"testing"

	"troth/api"
	"troth/config"
	"troth/memory"
	"troth/span"
	"troth/step"
	"troth/tview"
	"troth/view"
)

// updates are an update of each kind, that writes what is said if 5 is read.
func updates(mode string) map[string]uint64 {
	return map[string]uint64{"r1 = swap(x, 9, " + mode + ");": 9, "r1 = add(x, 9, " + mode + ");": 14, "r1 = cas(x, 5, 9, " + mode + ");": 9}
}

// P16.1: an update reads, then writes behind what it read, each by its half of the mode; the view of the message read is joined.
func TestUpdate(t *testing.T) {
	v := upto(y, 3).Join(view.At(x, 3, false))
	l := []memory.Item{message(x, 1, 3, 5, v), message(x, 6, 7, 5, view.View{}), message(y, 0, 2, 3, view.View{}), message(y, 2, 3, 4, view.View{})}
	own := upto(x, 4)
	for mode, want := range map[string]struct{ cur, acq, rel, message view.View }{
		"rlx": {own, own.Join(v), own, own.Join(v)},
		"acq": {own.Join(v), own.Join(v), own, own.Join(v)},
		"rel": {own, own.Join(v), own, own.Join(v)},
		"ar":  {own.Join(v), own.Join(v), own.Join(v), own.Join(v)},
	} {
		for text, n := range updates(mode) {
			s := one(t, text+" store(y, r1, rlx);", l...)
			me := config.Thread{S: state(0, 0, 5), V: tview.Views{Cur: want.cur, Acq: want.acq, Rel: [api.MaxLocations]view.View{x: want.rel}}}
			s.can(update(3, 4)).is(me, times{}, append(l, message(x, 3, 4, n, want.message))...)
			s.can(update(3, 6))
			s.can(update(7, 8))
			s.cannot(update(3, 7), update(3, 8), update(1, 2), update(2, 3), update(4, 5), update(6, 7), update(8, 9), update(3, 3), update(7, span.MaxTime+1))
			s.cannot( // the span begins elsewhere
				step.Step{Kind: step.Update, Read: 3, S: in(4, 5)}, step.Step{Kind: step.Update, Read: 3, S: in(7, 8)}, step.Step{Kind: step.Update, Read: 7, S: in(3, 4)},
				step.Step{Kind: step.Update, Read: 0, S: in(3, 4)}, step.Step{Kind: step.Update, Read: 3, S: in(0, 1)}, step.Step{Kind: step.Update, Read: 4, S: in(3, 4)},
			)
			s.cannot(redeem(3, 4), write(3, 4), read(3))
			s.knowing(cur(upto(x, 3))).can(update(3, 4))
			s.knowing(cur(upto(x, 4))).cannot(update(3, 4), update(3, 5))
			s.knowing(cur(view.At(x, 6, false))).cannot(update(3, 6))
			s.knowing(cur(view.At(x, 6, false))).can(update(7, 8))
			s.with(promise(0, x, 3, 4, 5, upto(x, 4)), reserved(0, x, 4, 5)).cannot(update(3, 4), update(3, 5), update(4, 5), update(5, 6))
			s.with(promise(0, x, 3, 4, 5, view.View{}), reserved(0, x, 5, 6)).can(update(4, 5)) // what itself promised is there to be read
			s.with(promise(1, x, 3, 4, 5, view.View{})).can(update(4, 5))
			s.with(reserved(nobody, x, 3, 4)).cannot(update(3, 4), update(4, 5)) // a reservation is not
		}
		for text, is := range map[string]bool{"r1 = swap(x, 9, ": true, "r1 = add(x, 0, ": true, "r1 = cas(x, 5, 9, ": false, "r1 = cas(x, 7, 7, ": true} {
			s := one(t, text+mode+");", l...)
			if is {
				s.can(update(0, 1)) // of the one at first
			} else {
				s.cannot(update(0, 1))
			}
		}
	}
	for _, text := range []string{"r0 = load(x, acq);", "store(x, 9, rlx);", "store(x, 9, pln);", "fence(ar);", ""} {
		one(t, text, l...).cannot(update(0, 1), update(3, 4), redeem(0, 1), step.Step{Kind: step.Update}, step.Step{Kind: step.Redeem})
	}
}

// P16.1: what was written before with Rel goes with an update's message, and with a Store's; what was only read does not.
func TestWhatAMessageTells(t *testing.T) {
	v := upto(y, 1)
	s := made(t, "thread { store(y, 1, rlx); store(x, 2, rel); store(x, 3, rlx); r0 = load(y, rlx); r1 = add(x, 4, rlx); } exists x;", message(y, 3, 4, 9, view.View{}))
	s = s.can(write(0, 1)).can(write(0, 1)).can(write(1, 2)).can(read(4)).can(update(2, 3))
	l := s.c.M.List(x)
	for i, want := range []view.View{{}, v.Join(upto(x, 1)), v.Join(upto(x, 2)), v.Join(upto(x, 3))} {
		if l[i].V != want || l[i].Owner != nobody || l[i].N != []uint64{0, 2, 3, 7}[i] {
			t.Error(l[i])
		}
	}
}

// P16.1: a promise is kept by an update that reads the message where it begins.
func TestRedeem(t *testing.T) {
	v := upto(y, 3).Join(view.At(x, 3, false))
	told := v.Join(upto(x, 6))
	l := []memory.Item{message(x, 1, 3, 5, v), message(y, 0, 3, 2, view.View{})}
	for _, mode := range []string{"rlx", "acq"} {
		for text, n := range updates(mode) {
			s := one(t, text+" store(y, r1, rlx);", l...)
			me := config.Thread{S: state(0, 0, 5), V: tview.Views{Cur: upto(x, 6), Acq: told, Rel: [api.MaxLocations]view.View{upto(x, 6)}}}
			if mode == "acq" {
				me.V.Cur = told
			}
			right := promise(0, x, 3, 6, n, told)
			s.with(right).can(redeem(3, 6)).is(me, times{}, append(l, message(x, 3, 6, n, told))...)
			s.with(right).cannot(redeem(0, 6), redeem(3, 5), redeem(4, 6), redeem(6, 7), update(3, 6), fulfil(3, 6),
				step.Step{Kind: step.Redeem, Read: 0, S: in(3, 6)}, step.Step{Kind: step.Redeem, Read: 6, S: in(3, 6)}, step.Step{Kind: step.Redeem, Read: 4, S: in(3, 6)})
			for _, z := range []memory.Item{
				promise(0, x, 3, 6, n+1, told),                // another number
				promise(0, x, 3, 6, n, told.Join(upto(x, 5))), // the same view, told otherwise
				promise(0, x, 3, 6, n, upto(x, 6)),            // another one
				promise(0, x, 3, 6, n, view.View{}),
				promise(1, x, 3, 6, n, told), // another owner
				message(x, 3, 6, n, told),
				promise(0, x, 4, 6, n, told), // another span
				promise(0, x, 3, 7, n, told),
				promise(0, x, 3, 5, n, told),
				reserved(0, x, 3, 6),
			} {
				if z == right {
					s.with(z).can(redeem(3, 6))
				} else {
					s.with(z).cannot(redeem(3, 6))
				}
			}
			s.cannot(redeem(3, 6))
			s.knowing(cur(upto(x, 6))).with(right).cannot(redeem(3, 6))
			s.with(promise(0, x, 4, 6, n, told)).cannot(step.Step{Kind: step.Redeem, Read: 3, S: in(4, 6)}) // it begins elsewhere
		}
	}
	one(t, "r1 = cas(x, 6, 9, rlx);", l...).with(promise(0, x, 3, 6, 9, told), promise(0, y, 3, 4, 9, told)).cannot(redeem(3, 6), redeem(3, 4))
}

// P16.1: a Fence does to what is known, and to S, what its mode says.
func TestFence(t *testing.T) {
	v := before()
	all := v.Acq.Join(v.Cur)
	rels := func(l ...view.View) (r [api.MaxLocations]view.View) {
		copy(r[:], l)
		return r
	}
	each := func(w view.View) [api.MaxLocations]view.View { // of locations that the program has not, too
		return rels(v.Rel[0].Join(w), v.Rel[1].Join(w), w, w)
	}
	late := times{6, 2, 0, 0}
	sc := upto(x, 6).Join(upto(y, 3))
	for mode, want := range map[string]struct {
		v    tview.Views
		late times
	}{
		"acq": {tview.Views{Cur: all, Acq: v.Acq, Rel: v.Rel}, late},
		"rel": {tview.Views{Cur: v.Cur, Acq: v.Acq, Rel: each(v.Cur)}, late},
		"ar":  {tview.Views{Cur: all, Acq: v.Acq, Rel: each(all)}, late},
		"sc":  {tview.Views{Cur: sc, Acq: sc, Rel: rels(sc, sc, sc, sc)}, times{6, 3, 0, 0}},
	} {
		s := one(t, "fence("+mode+"); r0 = 4;").knowing(v)
		s.c.S = late
		s.can(fence).is(config.Thread{S: state(-1, 4), V: want.v}, want.late)
		s.c.S = times{}
		s = s.can(fence)
		if mode == "sc" && s.c.S != (times{4, 3}) || mode != "sc" && s.c.S != (times{}) {
			t.Error(mode, s.c.S)
		}
		s.cannot(fence) // it is at its end
		for _, c := range []struct {
			is bool
			l  []memory.Item
		}{
			{false, []memory.Item{promise(0, x, 2, 3, 1, upto(x, 3))}},
			{false, []memory.Item{promise(0, y, 2, 3, 1, view.View{Rlx: put(y, 1)})}},
			{false, []memory.Item{promise(0, x, 2, 3, 1, view.View{}), promise(0, y, 4, 5, 1, upto(x, 5))}},
			{false, []memory.Item{promise(0, x, 2, 3, 1, upto(x, 3)), promise(0, y, 4, 5, 1, view.View{})}},
			{true, []memory.Item{promise(0, x, 2, 3, 1, view.View{}), promise(0, y, 4, 5, 1, view.View{})}},
			{true, []memory.Item{promise(1, x, 2, 3, 1, upto(x, 3)), promise(3, y, 2, 3, 1, upto(x, 3))}},
			{true, []memory.Item{message(x, 2, 3, 1, upto(x, 3)), reserved(0, y, 2, 3), reserved(0, x, 7, 8)}},
		} {
			s := one(t, "fence("+mode+"); r0 = 4;", c.l...).knowing(v)
			if c.is || mode == "acq" {
				s.can(fence)
			} else {
				s.cannot(fence)
			}
		}
	}
	for _, text := range []string{"r0 = load(x, acq);", "store(x, 1, rel);", "r0 = swap(x, 1, ar);", "r0 = cas(x, 7, 1, acq);", ""} {
		one(t, text).cannot(fence)
	}
	made(t, "thread { fence(sc); } exists 1;").can(fence).cannot(fence) // a memory of no locations
}

// P16.1: one's own reservation is gone, wherever the thread is.
func TestCancel(t *testing.T) {
	l := []memory.Item{message(x, 1, 2, 5, view.View{}), reserved(1, x, 2, 4), reserved(nobody, x, 4, 5), promise(0, x, 7, 8, 1, upto(x, 8)), message(y, 4, 6, 5, view.View{})}
	for _, text := range []string{"", "store(x, 1, rel);", "r0 = load(y, acq);", "fence(sc);", "r0 = swap(x, 1, ar);", "while (1) { store(x, 1, rlx); }"} {
		s := one(t, text, l...)
		me := s.c.T[0]
		s.cannot(cancel(x, 5, 7), cancel(x, 2, 4), cancel(x, 4, 5), cancel(x, 1, 2), cancel(x, 7, 8), cancel(x, 0, 0), cancel(x, 0, 1), cancel(y, 4, 6), cancel(y, 2, 4))
		s = s.with(reserved(0, x, 5, 7))
		s.can(cancel(x, 5, 7)).is(me, times{}, l...)
		s.can(cancel(x, 5, 7)).cannot(cancel(x, 5, 7))
		s.cannot(cancel(x, 4, 7), cancel(x, 6, 7), cancel(x, 5, 6), cancel(x, 5, 8), cancel(x, 4, 5), cancel(x, 2, 4), cancel(x, 7, 8), cancel(y, 5, 7), cancel(2, 5, 7), cancel(-1, 5, 7), cancel(api.MaxLocations, 5, 7))
		s = s.with(reserved(0, y, 2, 4))
		s.can(cancel(y, 2, 4)).can(cancel(x, 5, 7)).is(me, times{}, l...)
		s.can(cancel(y, 2, 4)).is(me, times{}, append(l, reserved(0, x, 5, 7))...)
	}
}

// P16.1: a promise is a message like any other, but that the thread owns it; it is where it was, and knows what it knew.
func TestPromise(t *testing.T) {
	l := []memory.Item{message(x, 1, 3, 5, view.View{}), message(y, 2, 4, 3, view.View{}), reserved(1, y, 6, 7)}
	for _, text := range []string{"store(y, 1, rlx);", "r0 = load(x, rlx); store(x, 1, rel);", "r0 = swap(x, 1, ar);", "fence(sc); r0 = add(x, 1, rlx);", "if (r0) { r0 = cas(x, 1, 1, rlx); } fence(acq); if (r1) { store(x, 1, pln); }"} {
		s := one(t, text, l...)
		me := s.c.T[0]
		for _, v := range []view.View{{}, upto(x, 5), upto(x, 3), upto(y, 4), upto(x, 5).Join(upto(y, 4)), view.At(x, 5, false).Join(upto(x, 3))} {
			s.can(vow(x, 3, 5, 9, v)).is(me, times{}, append(l, promise(0, x, 3, 5, 9, v))...)
		}
		s.can(vow(y, 4, 6, 0, upto(y, 6))).is(me, times{}, append(l, promise(0, y, 4, 6, 0, upto(y, 6)))...)
		s.can(vow(x, 0, 1, 9, upto(x, 1)))
		s.can(vow(x, 4, 5, 1<<63, view.View{}))
		s.cannot( // not closed
			vow(x, 3, 5, 9, upto(x, 4)), vow(x, 3, 5, 9, upto(x, 1)), vow(x, 3, 5, 9, upto(y, 2)), vow(x, 3, 5, 9, upto(y, 7)), vow(x, 3, 5, 9, upto(2, 1)), vow(x, 3, 5, 9, upto(3, 3)),
			vow(x, 3, 5, 9, view.At(x, 5, false).Join(upto(x, 2))), vow(x, 3, 5, 9, view.At(y, 5, false)), vow(x, 3, 5, 9, upto(x, 5).Join(upto(y, 3))),
			vow(y, 4, 6, 9, upto(x, 6)),
		)
		s.cannot( // its rlx above its end
			vow(x, 0, 1, 9, upto(x, 3)), vow(x, 0, 1, 9, view.At(x, 3, false)), vow(y, 0, 2, 9, upto(y, 4)), vow(y, 1, 2, 9, view.At(y, 4, false)),
		)
		s.can(vow(y, 0, 2, 9, upto(x, 3))) // that of another location may be
		s.can(vow(x, 0, 1, 9, upto(y, 4)))
		s.cannot( // what may not be, or does not fit
			vow(x, 3, 5, 9, view.View{Pln: put(x, 5)}), vow(x, 3, 5, 9, view.View{Pln: put(y, 4), Rlx: put(x, 5)}), vow(x, 3, 5, 9, view.View{Rlx: put(y, -4)}),
			vow(x, 0, 2, 9, view.View{}), vow(x, 1, 3, 5, view.View{}), vow(x, 2, 4, 9, view.View{}), vow(y, 4, 7, 9, view.View{}), vow(y, 6, 7, 9, view.View{}),
			vow(x, 3, 3, 9, view.View{}), vow(x, 0, 0, 7, view.View{}), vow(x, 5, 3, 9, view.View{}), vow(x, 3, span.MaxTime+1, 9, view.View{}),
			vow(-1, 3, 5, 9, view.View{}), vow(2, 3, 5, 9, view.View{}), vow(api.MaxLocations, 3, 5, 9, view.View{}), vow(1<<40, 3, 5, 9, view.View{}), vow(-1<<40, 3, 5, 9, view.View{}),
		)
		s.c.S, s.c.T[0].V = times{9, 9}, cur(upto(x, 9)) // what is known plays no part
		s.can(vow(x, 3, 5, 9, upto(x, 5)))
	}
}

// P16.1: no more promises than the thread may still write, on the way on which it writes most.
func TestPromisesAreFewerThanWrites(t *testing.T) {
	for text, most := range map[string]int{
		"":                                    0,
		"r0 = load(x, rlx); fence(ar);":       0,
		"while (1) { store(x, 1, rlx); }":     0, // it is stuck
		"store(x, 1, rlx);":                   1,
		"r0 = cas(x, 1, 1, acq);":             1,
		"store(x, 1, rel); store(y, 1, pln);": 2,
		"r0 = swap(x, 1, rlx); fence(sc); r0 = add(y, 1, ar); store(y, 2, rel);":                                          3,
		"r0 = load(x, rlx); if (r0) { store(x, 1, rlx); store(x, 2, rlx); } else { store(x, 1, rlx); }":                   2,
		"r0 = load(x, rlx); if (r0) { store(x, 1, rlx); } else { store(x, 1, rlx); store(x, 2, rlx); } store(x, 3, rlx);": 3,
	} {
		s := one(t, text, promise(1, x, 20, 21, 1, upto(x, 21)), promise(2, x, 22, 23, 1, view.View{}), message(y, 20, 21, 1, view.View{}), reserved(0, y, 30, 31))
		for n := range most {
			s = s.can(vow(n%2, 2*n, 2*n+1, 9, upto(n%2, 2*n+1)))
		}
		for loc := range 2 {
			s.cannot(vow(loc, 40, 41, 9, view.View{}), vow(loc, 40, 41, 9, upto(loc, 41)))
		}
	}
	s := one(t, "store(x, 1, rlx); store(x, 2, rlx); store(x, 3, rlx);").can(vow(x, 0, 1, 1, upto(x, 1))) // it goes on, with less to write
	s = s.can(write(1, 2)).can(vow(x, 2, 3, 2, upto(x, 3)))
	s.cannot(vow(x, 5, 6, 3, upto(x, 6)))
	s = s.can(fulfil(2, 3))
	s.cannot(vow(x, 5, 6, 3, upto(x, 6)))
}

// P16.1: one reservation a thread, behind a message, if it may yet come to an update.
func TestReserve(t *testing.T) {
	l := []memory.Item{message(x, 1, 3, 5, view.View{}), promise(1, x, 5, 6, 5, view.View{}), reserved(1, x, 8, 9), promise(0, y, 2, 4, 3, upto(y, 4))}
	for _, text := range []string{"r0 = swap(x, 1, rlx);", "store(y, 3, rlx); r0 = add(y, 1, ar);", "fence(sc); r0 = cas(x, 1, 1, rlx); store(y, 1, rlx);", "r0 = load(x, rlx); if (r0) { r0 = swap(y, 1, rel); } else { store(x, 1, rlx); }", "r0 = load(x, rlx); if (r0) { } else { r0 = swap(y, 1, rel); }"} {
		s := one(t, text, l...)
		me := s.c.T[0]
		for _, at := range [][3]int{{x, 3, 4}, {x, 3, 5}, {x, 0, 1}, {x, 6, 7}, {x, 6, 8}, {y, 0, 1}, {y, 0, 2}, {y, 4, 5}, {y, 4, 900}, {y, 4, span.MaxTime}} {
			z := reserved(0, at[0], at[1], at[2])
			s.can(reserve(at[0], at[1], at[2])).is(me, times{}, append(l, z)...)
			s.can(reserve(at[0], at[1], at[2])).cannot(reserve(x, 3, 4), reserve(y, 0, 1), reserve(y, 4, 5), reserve(at[0], at[2], at[2]+1)) // it has one
			s.can(reserve(at[0], at[1], at[2])).can(cancel(at[0], at[1], at[2])).is(me, times{}, l...)
		}
		s.cannot( // not behind a message: free, within one, behind a reservation, and at another location
			reserve(x, 4, 5), reserve(x, 7, 8), reserve(x, 9, 10), reserve(x, 10, 11), reserve(y, 1, 2), reserve(y, 3, 5), reserve(y, 5, 6), reserve(y, 6, 7),
		)
		s.cannot( // it does not fit, or may not be
			reserve(x, 0, 2), reserve(x, 0, 3), reserve(x, 3, 6), reserve(x, 6, 9), reserve(y, 0, 3), reserve(x, 0, 0), reserve(x, 3, 3), reserve(y, 4, 4), reserve(y, 4, 2), reserve(y, 4, span.MaxTime+1),
			reserve(-1, 0, 1), reserve(2, 0, 1), reserve(3, 0, 1), reserve(api.MaxLocations, 0, 1), reserve(1<<40, 0, 1),
		)
		s.with(reserved(0, x, 10, 11)).cannot(reserve(x, 3, 4), reserve(y, 0, 1), reserve(y, 4, 5))
		s.with(reserved(0, y, 10, 11)).cannot(reserve(x, 3, 4), reserve(y, 0, 1), reserve(y, 4, 5))
		s.with(reserved(1, y, 10, 11), reserved(nobody, y, 11, 12), reserved(3, y, 12, 13)).can(reserve(x, 3, 4)) // others' don't count
	}
	for _, text := range []string{"", "store(x, 1, rlx); r0 = load(y, acq); fence(sc);", "while (1) { r0 = swap(x, 1, rlx); }", "if (r0) { r0 = swap(x, 1, rlx); } store(x, 1, rlx);"} {
		one(t, text, l...).cannot(reserve(x, 3, 4), reserve(x, 0, 1), reserve(y, 4, 5)) // no way has an update
	}
	s := one(t, "r0 = swap(x, 1, rlx); store(x, 1, rlx);").can(reserve(x, 0, 1)).can(cancel(x, 0, 1)).can(update(0, 1))
	s.cannot(reserve(x, 1, 2), reserve(y, 0, 1))
}

// P16.1: where as many items as may be are there already, nothing is added; what is there is kept, read and given up.
func TestFullLocation(t *testing.T) {
	var l []memory.Item
	for i := range api.MaxMessages - 3 {
		l = append(l, message(x, 3*i+1, 3*i+2, 7, view.View{}))
	}
	const end = 3 * api.MaxMessages
	for _, c := range []struct {
		text      string
		adds, can []step.Step
	}{
		{"store(x, 1, rlx); r0 = swap(x, 1, rlx);", []step.Step{write(0, 1), write(end+9, end+10), vow(x, 0, 1, 1, view.View{}), vow(x, end+9, end+10, 1, upto(x, end+10)), reserve(x, 0, 1), reserve(x, 2, 3)}, nil},
		{"r0 = swap(x, 1, rlx);", []step.Step{update(0, 1), update(2, 3), reserve(x, 0, 1), vow(x, 2, 3, 1, view.View{})}, nil},
	} {
		s := one(t, c.text, l...)
		for _, z := range c.adds { // one below the most there may be
			s.with(reserved(1, x, end, end+1)).can(z)
			s.with(reserved(1, x, end, end+1), reserved(nobody, x, end+1, end+2)).cannot(z)
			s.with(reserved(1, y, end, end+1), message(y, 2, 3, 4, view.View{})).can(z)
		}
	}
	full := append(l, promise(0, x, end, end+1, 1, upto(x, end+1)), reserved(0, x, end+2, end+3))
	one(t, "store(x, 1, rlx);", full...).can(fulfil(end, end+1))
	one(t, "store(x, 1, rlx);", full...).can(cancel(x, end+2, end+3)).can(write(end+2, end+3))
	one(t, "r0 = load(x, rlx);", full...).can(read(end + 1))
	one(t, "store(y, 1, rlx);", full...).can(write(0, 1))
}
