package machine_test

import (
	"reflect"
	"slices"
	"strings"
	"testing"

	"troth/api"
	"troth/config"
	"troth/machine"
	"troth/memory"
	"troth/promise"
	"troth/span"
	"troth/step"
	"troth/thread"
	"troth/tview"
	"troth/unroll"
	"troth/view"
)

// P19.2: as the chapter's example shows them.
func TestExample(t *testing.T) {
	made(t, "thread { store(x, 1, rlx); } exists x;").can(append(ends(x, 1), write(0, 1), write(1, 2))...)
}

// P19.2: moves by steps of each kind.
func TestEachKind(t *testing.T) {
	held := []step.Step{hold(x, 0, 1), hold(y, 0, 1)}
	for mode, want := range map[string][]step.Step{"pln": {plain(x, 0, 1, 1), plain(x, 1, 2, 1)}, "rlx": ends(x, 1), "rel": nil} {
		one(t, "store(x, 1, "+mode+");").can(append(want, write(0, 1), write(1, 2))...)
		one(t, "store(x, 1, "+mode+");", reserved(0, y, 4, 9)).can(append(want, write(0, 1), write(1, 2), cancel(y, 3, 6))...)
		one(t, "r0 = load(y, rlx); store(x, 1, "+mode+");").can(append(want, read(0))...)
	}
	for _, mode := range []string{"pln", "rlx", "acq"} {
		one(t, "r0 = load(x, "+mode+");", message(x, 4, 5, 5), promised(1, x, 5, 8, 5), reserved(1, x, 8, 9)).can(read(0), read(6), read(9))
		one(t, "r0 = load(x, "+mode+");", message(x, 4, 5, 5)).knowing(cur(upto(x, 5))).can(read(6))
	}
	one(t, "r0 = load(y, rlx);", message(x, 4, 5, 5)).can(read(0))
	for _, mode := range []string{"acq", "rel", "ar", "sc"} {
		one(t, "fence("+mode+");").can(fence)
		one(t, "fence("+mode+");", reserved(0, y, 1, 2)).can(fence, cancel(y, 3, 6))
		one(t, "fence("+mode+"); r0 = load(x, rlx);", message(x, 4, 5, 5)).can(fence)
	}
	one(t, "r0 = add(x, 1, rlx);").can(append(held, update(0, 1), vow(x, 0, 1, 8))...)
	one(t, "r0 = swap(x, 1, ar);").can(append(held, update(0, 1))...)
	one(t, "r0 = cas(x, 7, 1, acq);").can(append(held, update(0, 1), vow(x, 0, 1, 1))...)
	one(t, "r0 = cas(x, 6, 1, acq);").can(append(held, read(0))...)
	one(t, "r0 = cas(x, 6, 1, rel);", message(x, 4, 5, 6)).can(
		read(0), update(6, 7), hold(x, 0, 1), hold(x, 0, 3), hold(x, 6, 7), hold(y, 0, 1))
	one(t, "r0 = add(x, 1, rlx);", reserved(0, x, 0, 1)).can(cancel(x, 0, 3)) // its own reservation is in its way
	one(t, "store(x, 5, rlx);", promised(0, x, 0, 1, 5)).can(fulfil(0, 3))
	one(t, "store(x, 5, pln);", knows(promised(0, x, 4, 8, 5))).can(fulfil(3, 6))
	one(t, "r0 = swap(x, 5, rlx);", promised(0, x, 0, 1, 5)).can(redeem(0, 3), hold(x, 3, 4), hold(y, 0, 1))
	one(t, "r0 = add(x, 2, rlx);", message(x, 4, 5, 3), promised(0, x, 5, 9, 5)).can(redeem(6, 9), hold(x, 0, 1), hold(x, 0, 3), hold(x, 9, 10), hold(y, 0, 1))
}

// P19.2: of a gap all places are gone by, as far apart as ranks thrice as great leave room for them.
func TestPlaces(t *testing.T) {
	one(t, "store(x, 1, rel);", message(x, 4, 5, 5)).can(write(0, 3), write(0, 1), write(1, 3), write(1, 2), write(6, 7), write(7, 8))
	late := []memory.Item{message(x, 1, 2, 5), message(x, 90, 95, 5), reserved(1, x, 95, 99), message(y, 5, 6, 1)} // of x the ends are 0, 1, 2, 90, 95, 99
	want := []step.Step{write(0, 3), write(0, 1), write(1, 3), write(1, 2), write(6, 9), write(6, 7), write(7, 9), write(7, 8), write(15, 16), write(16, 17)}
	acts := func(l []step.Step) []act { return append(by(0, l...), by(1, cancel(x, 12, 15))...) }
	one(t, "store(x, 1, rel);", late...).acts(acts(want)...)
	for to, left := range map[int]int{1: 6, 2: 6, 90: 2, 95: 2, 99: 2} { // what is known is told by ranks too
		one(t, "store(x, 1, rel);", late...).knowing(cur(view.At(x, to, false))).acts(acts(want[len(want)-left:])...)
	}
	one(t, "store(x, 1, rel);", message(x, 0, span.MaxTime, 5)).can(write(3, 4), write(4, 5)) // behind the latest time there is room again
	one(t, "r0 = add(x, 1, rel);", message(x, 5, span.MaxTime, 5)).can(
		update(0, 3), update(0, 1), update(6, 7), hold(x, 0, 3), hold(x, 0, 1), hold(x, 6, 7), hold(y, 0, 1))
}

// P19.2: it hangs on the order of times alone.
func TestOfSpread(t *testing.T) {
	s := one(t, "r0 = load(x, rlx); store(y, r0, rlx); r1 = add(x, 1, rlx);",
		message(x, 2, 5, 6), knows(promised(1, x, 5, 6, 9), upto(x, 6), upto(y, 3)), message(y, 1, 3, 5)).knowing(rel(y, upto(x, 5)))
	want := tellMoves(s.moves())
	if len(want) < 20 {
		t.Error(len(want))
	}
	for _, n := range []int{2, 3, 4, 70, 100000} {
		far := s
		far.c, _ = s.c.Spread(n)
		if got := tellMoves(far.moves()); !reflect.DeepEqual(got, want) {
			t.Error(n, got, want)
		}
	}
	s.c = s.c.Ranks()
	if got := tellMoves(s.moves()); !reflect.DeepEqual(got, want) {
		t.Error(got, want)
	}
}

// P19.2: a step that can be done, but behind which the thread is not certified, is no move.
func TestNotCertified(t *testing.T) {
	owes := promised(0, y, 0, 1, 5)
	one(t, "r0 = load(x, rlx); store(y, r0, rlx);", owes, message(x, 1, 2, 5), message(x, 2, 3, 6)).can(read(6))
	one(t, "r0 = load(y, rlx); store(y, 5, rlx);", owes).can(read(0)) // who reads its own promise can't keep it
	one(t, "store(y, 5, rlx); store(y, 6, rlx);", owes).can(fulfil(0, 3), vow(y, 3, 4, 6), vow(y, 4, 5, 6))
	one(t, "store(y, 6, rlx); store(y, 5, rlx);", promised(0, y, 4, 5, 5)).can( // but not behind its promise
		write(0, 3), write(0, 1), write(1, 3), write(1, 2), vow(y, 0, 3, 6), vow(y, 0, 1, 6), vow(y, 1, 3, 6), vow(y, 1, 2, 6))
	one(t, "if (r0) { store(y, 5, rlx); } r1 = load(x, rlx);", owes).can()
	one(t, "fence(rel); store(y, 5, pln);", knows(owes)).can(fence)
	sc := one(t, "fence(sc); store(y, 5, pln);", knows(owes))
	sc.can(fence) // certified behind the fence, if not ahead of it
	sc.c.S = times{y: 1}
	sc.can()
	one(t, "store(x, 1, rel); store(y, 5, rlx);", owes).can(write(0, 1), write(1, 2))
	one(t, "store(y, 1, rel); store(y, 5, rlx);", promised(0, y, 4, 5, 5)).can()
	text := "r0 = swap(x, 1, rel); store(y, 5, rlx);"
	one(t, text, owes).can(update(0, 1), hold(x, 0, 1))        // no promise can be kept ahead of the update, but where a place is reserved
	one(t, text, owes, reserved(0, y, 1, 2)).can(update(0, 1)) // elsewhere that helps nothing
	one(t, text, owes, reserved(0, x, 0, 1)).can()             // nor can the thread give it back
	one(t, text, owes, message(x, 0, 1, 3)).knowing(cur(upto(x, 1))).can(update(3, 4), hold(x, 3, 4))
	one(t, "", owes, reserved(0, x, 0, 1)).can()
	one(t, "", reserved(0, x, 0, 1)).can(cancel(x, 0, 3)) // who owes nothing may
	one(t, "", reserved(nobody, x, 0, 1)).can()
	one(t, "", reserved(1, x, 0, 1)).acts(act{1, cancel(x, 0, 3)})
	one(t, "r0 = load(x, rlx); store(y, 5, rlx);", owes, promised(0, y, 1, 2, 5)).can()
}

// P19.2: threads that are stuck, that have ended, that owe something still: no move of them; others go on.
func TestStuckOrEnded(t *testing.T) {
	for _, text := range []string{"", "r0 = 5;", "if (r0) { store(x, 1, rlx); }", "while (1) { }", "while (1) { } r0 = swap(x, 1, rlx);"} {
		one(t, text).can()
		one(t, text, message(x, 1, 2, 5), promised(nobody, y, 1, 2, 5)).can()
		one(t, text, promised(0, x, 1, 2, 1)).can()
		one(t, text, reserved(0, y, 1, 2)).can(cancel(y, 3, 6))
		one(t, text, reserved(0, y, 1, 2), promised(0, x, 1, 2, 1)).can()
		two := made(t, "init x = 7; thread { "+text+" } thread { r0 = load(x, rlx); } exists x + y;", promised(0, x, 0, 1, 1), reserved(0, y, 0, 1))
		two.acts(by(1, read(0), read(3))...)
	}
	one(t, "while (1) { r0 = load(x, rlx); }").can(read(0))
	for _, at := range []int{-1, -9, 99} {
		s := one(t, "r0 = swap(x, 1, rlx);")
		s.c = s.c.With(0, config.Thread{S: thread.State{At: at}})
		s.can()
	}
}

// P19.2: a thread that can keep its promise, and one that can no longer, whatever the other one does.
func TestWhoOwes(t *testing.T) {
	text := "init x = 7; thread { r0 = load(x, rlx); store(y, 5, rlx); } thread { r0 = load(y, rlx); store(x, 5, rlx); } exists x + y;"
	keeps, fails := promised(0, y, 0, 1, 5), promised(1, x, 0, 1, 6)
	made(t, text, keeps).acts(append(by(0, read(0)), by(1, append(ends(x, 5), read(0), read(3))...)...)...)
	made(t, text, keeps, fails).acts(by(0, read(0), read(3))...)
	made(t, text, knows(keeps), fails).acts()
	made(t, text, keeps, promised(1, x, 0, 1, 5)).acts(append(by(0, read(0), read(3)), by(1, read(0), read(3))...)...)
	late := made(t, text, keeps, message(y, 1, 2, 5))
	late.c = late.c.With(0, config.Thread{S: late.c.T[0].S, V: cur(upto(y, 1))}) // it knows what it promised as written
	late.acts(by(1, append(ends(x, 5), read(0), read(3), read(6))...)...)
}

// P19.2: steps that lead to one next configuration: one move, the first.
func TestOneToEach(t *testing.T) {
	same := []memory.Item{message(x, 1, 2, 7), message(x, 2, 3, 6), message(x, 3, 4, 7)} // which of three alike was read can't be seen, if all were known
	one(t, "r0 = load(x, pln);", same...).knowing(cur(view.At(x, 4, false))).can(read(0), read(9))
	one(t, "r0 = load(x, pln);", same...).knowing(cur(view.At(x, 4, false).Join(upto(x, 2)))).can(read(6), read(9))
	one(t, "r0 = load(x, pln);", same...).knowing(cur(view.At(x, 3, false))).can(read(0), read(9), read(12))
	one(t, "r0 = load(x, rlx);", same...).can(read(0), read(6), read(9), read(12))
	one(t, "", reserved(0, x, 1, 2), reserved(0, x, 3, 4)).can(cancel(x, 3, 6))
	one(t, "", reserved(0, x, 1, 2), reserved(0, x, 2, 4), message(x, 4, 5, 1)).can(cancel(x, 3, 6), cancel(x, 6, 9))
	one(t, "", reserved(0, x, 1, 2), reserved(0, y, 1, 2)).can(cancel(x, 3, 6), cancel(y, 3, 6))
}

// P19.2: a promise ahead of one that is like it leads where one behind it does: the first of Candidates.
func TestOneToEachPromise(t *testing.T) {
	s := one(t, "store(x, 1, pln); store(x, 1, pln);", knows(promised(0, x, 4, 5, 1)))
	var want []act
	led := map[string]bool{}
	for _, z := range promise.Candidates(s.p, wide(t, s.c), 0) {
		next, _ := step.Do(s.p, wide(t, s.c), 0, z)
		if key := next.Ranks().Key(); !led[key] {
			want = append(want, act{0, z})
			led[key] = true
		}
	}
	if n := len(promise.Candidates(s.p, wide(t, s.c), 0)); n != 6 || len(want) != 4 {
		t.Error(n, want)
	}
	s.can(append([]step.Step{write(0, 3), write(0, 1), write(1, 3), write(1, 2), fulfil(3, 6)}, steps(want)...)...)
}

// steps are those of acts.
func steps(l []act) (all []step.Step) {
	for _, a := range l {
		all = append(all, a.s)
	}
	return all
}

// P19.2: thread by thread, of each in the order of Moves, then of Candidates.
func TestOrder(t *testing.T) {
	s := made(t, "thread { r0 = add(x, 1, rlx); } thread { r0 = load(y, acq); store(x, r0, rlx); } thread { } thread { store(y, 1, pln); } exists x + y;",
		message(x, 3, 4, 2), reserved(3, x, 4, 5), message(y, 2, 3, 1))
	var got, want []act
	for _, m := range s.moves() {
		got = append(got, act{m.I, m.S})
	}
	at := wide(t, s.c)
	for i, first := range [][]step.Step{
		{update(0, 3), update(0, 1)},
		{read(0), read(6)},
		nil,
		{write(0, 3), write(0, 1), write(1, 3), write(1, 2), write(6, 7), write(7, 8), cancel(x, 6, 9)},
	} {
		want = append(want, by(i, append(first, promise.Candidates(s.p, at, i)...)...)...)
	}
	if !slices.Equal(got, want) || len(want) < 30 {
		t.Errorf("%v, not %v", got, want)
	}
}

// leads sees to it that a move by that step of the thread 0 leads to a configuration with these items behind the first ones, of x and of y, and with that thread.
func (s scene) leads(step step.Step, at config.Thread, l ...memory.Item) config.Config {
	s.Helper()
	got := s.move(0, step).Next
	want := config.Config{M: begun(s, 7, 8), T: slices.Clone(s.c.T), S: got.S}
	want.T[0] = at
	want = scene{s.T, s.p, want}.with(l...).c
	if !reflect.DeepEqual(tell(got), tell(want)) {
		s.Errorf("%v leads to %v, not %v", step, tell(got), tell(want))
	}
	return got
}

// begun is a memory at first.
func begun(s scene, start ...uint64) memory.Memory {
	m, err := memory.Begin(start)
	if err != api.OK {
		s.Fatal(err)
	}
	return m
}

// P19.2: the next configuration is the one behind the step, told by ranks.
func TestNext(t *testing.T) {
	ended := func(v tview.Views, r ...uint64) config.Thread {
		at := config.Thread{S: thread.State{At: -1}, V: v}
		copy(at.S.R[:], r)
		return at
	}
	s := one(t, "store(x, 1, rlx);", message(x, 4, 5, 5))
	for at, want := range map[[2]int]struct {
		items [2]memory.Item
		to    int
	}{
		{0, 3}: {[2]memory.Item{message(x, 0, 1, 1), message(x, 1, 2, 5)}, 1},
		{0, 1}: {[2]memory.Item{message(x, 0, 1, 1), message(x, 2, 3, 5)}, 1},
		{1, 3}: {[2]memory.Item{message(x, 1, 2, 1), message(x, 2, 3, 5)}, 2},
		{1, 2}: {[2]memory.Item{message(x, 1, 2, 1), message(x, 3, 4, 5)}, 2},
		{6, 7}: {[2]memory.Item{message(x, 1, 2, 5), message(x, 2, 3, 1)}, 3},
		{7, 8}: {[2]memory.Item{message(x, 1, 2, 5), message(x, 3, 4, 1)}, 4},
	} {
		s.leads(write(at[0], at[1]), ended(rel(x, upto(x, want.to))), want.items[:]...)
		own := want.items
		for n := range own {
			if own[n].N == 1 {
				own[n].Owner = 0
			}
		}
		s.leads(vow(x, at[0], at[1], 1), s.c.T[0], own[:]...)
	}
	heard := knows(message(x, 4, 5, 5), upto(x, 5), upto(y, 3))
	l := []memory.Item{heard, message(y, 2, 3, 6)}
	after := []memory.Item{knows(message(x, 1, 2, 5), upto(x, 2), upto(y, 2)), message(y, 1, 2, 6)}
	all := upto(x, 2).Join(upto(y, 2))
	one(t, "r0 = load(x, acq);", l...).leads(read(6), ended(cur(all), 5), after...)
	one(t, "r0 = load(x, rlx);", l...).leads(read(6), ended(tview.Views{Cur: upto(x, 2), Acq: all}, 5), after...)
	one(t, "r0 = load(x, rlx);", l...).leads(read(0), ended(tview.Views{}, 7), after...)
	added := knows(message(x, 2, 3, 6), upto(x, 3), upto(y, 2))
	known := upto(x, 3).Join(upto(y, 2))
	one(t, "r0 = add(x, 1, acq);", l...).leads(update(6, 7), ended(tview.Views{Cur: known, Acq: known, Rel: [api.MaxLocations]view.View{upto(x, 3)}}, 5), append(after, added)...)
	one(t, "r0 = add(x, 1, acq);", l...).leads(hold(x, 6, 7), config.Thread{S: thread.State{At: 0}}, append(after, reserved(0, x, 2, 3))...)
	one(t, "", append(l, reserved(0, y, 0, 1))...).leads(cancel(y, 0, 3), ended(tview.Views{}), after...) // with it an end is gone
	one(t, "store(y, 5, rlx);", append(l, promised(0, y, 3, 9, 5))...).leads(fulfil(6, 9), ended(rel(y, upto(y, 3))), append(after, message(y, 2, 3, 5))...)
	one(t, "r0 = swap(y, 5, rlx);", append(l, promised(0, y, 3, 9, 5))...).leads(redeem(6, 9), ended(rel(y, upto(y, 3)), 6), append(after, message(y, 2, 3, 5))...)
	sc := one(t, "fence(sc);", l...).knowing(cur(upto(x, 5)))
	sc.c.S = times{0, 3}
	flat := view.Flat(times{2, 2})
	got := sc.leads(fence, ended(tview.Views{Cur: flat, Acq: flat, Rel: [api.MaxLocations]view.View{flat, flat, flat, flat}}), after...)
	if got.S != (times{2, 2}) {
		t.Error(got.S)
	}
}

// P19.2: a move's certificate is the one of its thread behind it, told by the next configuration, spread by 70.
func TestCertificates(t *testing.T) {
	shown := func(s scene, i int, by step.Step, want ...step.Step) {
		t.Helper()
		if got := s.move(i, by).Cert; !slices.Equal(got, want) {
			t.Errorf("%v is shown by %v, not %v", by, got, want)
		}
	}
	s := one(t, "r0 = load(y, rlx); store(x, 1, rlx);", message(x, 4, 5, 5))
	shown(s, 0, read(0)) // who owes nothing shows nothing
	shown(s, 0, vow(x, 0, 3, 1), read(0), fulfil(0, 70))
	shown(s, 0, vow(x, 1, 2, 1), read(0), fulfil(70, 140))
	shown(s, 0, vow(x, 6, 7, 1), read(0), fulfil(140, 210))
	shown(s, 0, vow(x, 7, 8, 1), read(0), fulfil(210, 280))
	s = one(t, "r0 = load(y, rlx); store(x, r0, rlx); r1 = load(x, rlx);", promised(0, x, 0, 1, 5), message(y, 5, 6, 4), message(y, 6, 9, 5))
	shown(s, 0, read(9), fulfil(0, 70))
	s = one(t, "store(y, 5, rlx); r0 = add(x, 1, rlx);", promised(0, x, 0, 1, 8), promised(0, y, 0, 1, 5))
	shown(s, 0, fulfil(0, 3), redeem(0, 70))
	shown(s, 0, hold(x, 3, 4), fulfil(0, 70), redeem(0, 70))
	s = made(t, "thread { store(x, 1, rlx); store(x, 2, rlx); } thread { store(x, 1, rlx); } exists x;", promised(0, x, 0, 1, 1), promised(0, x, 1, 2, 2))
	shown(s, 0, fulfil(0, 3), fulfil(70, 140))
	shown(s, 1, write(6, 7)) // what others owe they show themselves
	shown(s, 1, vow(x, 7, 8, 1), fulfil(210, 280))
}

// P19.2: where memory can't be capped none is certified: there is no move, or none that puts one item more.
func TestNoCapFits(t *testing.T) {
	for n := 36; n < 40; n++ {
		var reads, writes, vows []step.Step
		if n < 39 {
			reads = append(reads, read(0), read(3*n))
		}
		if n < 38 { // then there is one more, and room to cap it
			writes, vows = append(writes, write(3*n, 3*n+1)), append(vows, vow(x, 3*n, 3*n+1, 1))
		}
		if n < 37 { // and here a gap ahead of it too
			writes, vows = append(writes, write(3*n+1, 3*n+2)), append(vows, vow(x, 3*n+1, 3*n+2, 1))
		}
		l := row(x, n)
		know := cur(upto(x, n))
		one(t, "store(x, 1, rlx);", l...).knowing(know).can(append(writes, vows...)...)
		one(t, "r0 = load(x, rlx);", l...).knowing(know).can(reads[min(1, len(reads)):]...)
		one(t, "r0 = load(y, rlx);", l...).can(reads[:min(1, len(reads))]...)
		other := made(t, "thread { store(y, 1, rel); } thread { r0 = load(x, rlx); } exists x + y;", l...).knowing(know)
		if got := len(other.moves()); got > 0 != (n < 39) {
			t.Error(n, got)
		}
	}
}

// P19.2: a configuration that has fewer threads than the program, or more: no move of one that either has not.
func TestFewerThreads(t *testing.T) {
	text := "store(x, 1, rel);"
	can := []step.Step{write(0, 1), write(1, 2)}
	s := made(t, "thread { "+text+" } thread { "+text+" } thread { "+text+" } exists x;")
	s.acts(slices.Concat(by(0, can...), by(1, can...), by(2, can...))...)
	for n := range 3 {
		var want []act
		for i := range n {
			want = append(want, by(i, can...)...)
		}
		fewer, less := s, s
		fewer.c.T = s.c.T[:n]
		fewer.acts(want...)
		less.p.Threads = s.p.Threads[:n]
		less.acts(want...)
		for _, m := range less.moves() { // threads that the program has not are there still
			if len(m.Next.T) != 3 {
				t.Error(m.Next.T)
			}
		}
	}
	owner := made(t, "thread { store(x, 1, rel); } exists x;", promised(1, x, 0, 1, 1), reserved(1, x, 1, 2), reserved(3, x, 2, 3), promised(2, x, 3, 4, 1))
	owner.can(write(12, 13), write(13, 14))
	owner.c.T = append(owner.c.T, owner.c.T[0], owner.c.T[0])
	owner.can(write(12, 13), write(13, 14))
}

// P19.2: of no threads, no locations, nothing: none.
func TestOfNothing(t *testing.T) {
	s := one(t, "r0 = swap(x, 1, rlx);", reserved(0, x, 0, 1))
	bare := s
	bare.p.Threads = nil
	bare.acts()
	bare.c.T = nil
	bare.acts()
	scene{t, s.p, config.Config{}}.acts()
	scene{t, unroll.Program{}, s.c}.acts()
	scene{t, unroll.Program{}, config.Config{}}.acts()
	scene{t, unroll.Program{}, config.Begin(unroll.Program{})}.acts()
	made(t, "thread { } thread { r0 = 1; } exists 1;").acts()
	made(t, "thread { fence(sc); fence(acq); } exists 1;").acts(act{0, fence})
	scene{t, s.p, config.Config{T: s.c.T}}.acts() // a memory of no locations
}

// P19.1, P19.2, R2, R3: programs stay as they were, and nothing is left behind: others, asked of between, change no answer.
func TestProgramsStay(t *testing.T) {
	text := "r0 = load(x, rlx); store(y, r0 - 2, rlx);"
	s, fresh := one(t, text), one(t, text)
	want := tellMoves(s.moves())
	for _, other := range []scene{one(t, "r0 = add(y, 1, rlx);", message(y, 3, 4, 6)), one(t, ""), one(t, "store(x, 1, pln);").knowing(cur(upto(x, 1)))} {
		other.moves()
		if got := tellMoves(s.moves()); !reflect.DeepEqual(got, want) {
			t.Error(got, want)
		}
		wide(t, other.c)
	}
	if !reflect.DeepEqual(s.p, fresh.p) {
		t.Error(s.p)
	}
}

// P19.2, R1: there is an answer soon, however much a thread writes, and however much stands there.
func TestLongThreads(t *testing.T) {
	many := func(text string, n int) string { return strings.Repeat(text, n) }
	one(t, many("store(x, 1, rlx); ", 32)).can(append(ends(x, 1), write(0, 1), write(1, 2))...)
	one(t, many("r0 = r0 + 1; store(x, r0, rlx); ", 16)).can(append(ends(x, 1), write(0, 1), write(1, 2))...)
	one(t, many("store(x, 1, pln); store(y, 1, rlx); ", 16)).can(append(ends(y, 1), write(0, 1), write(1, 2), plain(x, 0, 1, 1), plain(x, 1, 2, 1))...)
	one(t, many("r0 = add(x, 1, rlx); ", 32)).can(update(0, 1), vow(x, 0, 1, 8), hold(x, 0, 1), hold(y, 0, 1))
	one(t, many("fence(acq); ", 30)+"store(x, 1, rlx);", row(y, 36)...).can(append(ends(x, 1), fence)...)
	loads := many("r0 = load(y, pln); r1 = load(y, pln); r2 = load(y, pln); r3 = load(y, pln); r4 = load(y, pln); ", 6)
	if n := len(one(t, "store(x, 1, rlx); "+loads, row(y, 36)...).moves()); n != 4 {
		t.Error(n)
	}
	if n := len(one(t, loads+"r0 = load(y, pln);", row(y, 38)...).moves()); n != 39 {
		t.Error(n)
	}
}

// texts are those of all outcomes that moves lead to, from the configuration at first on.
func texts(t *testing.T, text string) map[string]bool {
	t.Helper()
	s := made(t, text)
	found, seen := map[string]bool{}, map[string]bool{s.c.Key(): true}
	for l := []config.Config{s.c}; len(l) > 0; l = l[1:] {
		if config.Terminal(s.p, l[0]) {
			found[config.Ends(s.p, l[0]).Text()] = true
		}
		for _, m := range machine.Moves(s.p, l[0]) {
			if key := m.Next.Key(); !seen[key] {
				seen[key] = true
				l = append(l, m.Next)
			}
			if len(seen) > 2000 {
				t.Fatal("there is no end", text)
			}
		}
	}
	return found
}

// P19.2, P19.3: what moves lead to in the end: what orders little lets much happen; no thread promises what it could not keep by itself.
func TestWhatComes(t *testing.T) {
	const one, other, both, none = "0:r0=1 L0=1 L1=1", "1:r0=1 L0=1 L1=1", "0:r0=1 1:r0=1 L0=1 L1=1", "L0=1 L1=1"
	for text, want := range map[string][]string{
		"thread { store(x, 1, rlx); r0 = load(y, rlx); } thread { store(y, 1, rlx); r0 = load(x, rlx); }":                         {one, other, both, none},
		"thread { store(x, 1, rlx); fence(sc); r0 = load(y, rlx); } thread { store(y, 1, rlx); fence(sc); r0 = load(x, rlx); }":   {one, other, both},
		"thread { r0 = load(x, rlx); store(y, 1, rlx); } thread { r0 = load(y, rlx); store(x, 1, rlx); }":                         {one, other, both, none},
		"thread { r0 = load(x, rlx); store(y, 1, rel); } thread { r0 = load(y, rlx); store(x, 1, rel); }":                         {one, other, none},
		"thread { r0 = load(x, rlx); store(y, r0, rlx); } thread { r0 = load(y, rlx); store(x, r0, rlx); }":                       {"L0=0 L1=0"},
		"thread { r0 = load(x, rlx); store(y, 1 + r0 * 0, rlx); } thread { r0 = load(y, rlx); store(x, 1, rlx); }":                {one, other, both, none},
		"thread { r0 = load(x, rlx); if (r0) { store(y, 1, rlx); } } thread { r0 = load(y, rlx); if (r0) { store(x, 1, rlx); } }": {"L0=0 L1=0"},
		"thread { store(x, 1, rlx); store(y, 1, rel); } thread { r0 = load(y, acq); if (r0) { r0 = load(x, rlx); } }":             {other, none},
		"thread { store(x, 1, rlx); store(y, 1, rlx); } thread { r0 = load(y, acq); if (r0) { r0 = load(x, rlx); r1 = 2; } }":     {"1:r1=2 L0=1 L1=1", "1:r0=1 1:r1=2 L0=1 L1=1", none},
		"thread { r0 = add(x, 1, rlx); } thread { r0 = add(x, 1, rlx); }":                                                         {"0:r0=1 L0=2 L1=0", "1:r0=1 L0=2 L1=0"},
		"thread { while (r0 == 0) { r0 = load(x, rlx); } } thread { store(x, 1, rlx); store(y, 1, rlx); }":                        {one},
	} {
		got := texts(t, text+" exists x + y;")
		if len(got) != len(want) || slices.ContainsFunc(want, func(s string) bool { return !got[s] }) {
			t.Errorf("%s: %v, not %v", text, got, want)
		}
	}
}
