package step_test

import (
	"reflect"
	"slices"
	"testing"

	"troth/api"
	"troth/memory"
	"troth/span"
	"troth/step"
	"troth/thread"
	"troth/view"
)

// moves are those of the thread 0. It sees to it that each of them can be done and uses only what its kind uses, that what is handed in stays, and that they are the same again.
func (s scene) moves() []step.Step {
	s.Helper()
	was := tell(s.c)
	l := step.Moves(s.p, s.c, 0)
	if !reflect.DeepEqual(tell(s.c), was) {
		s.Fatal("what was handed in is another one", tell(s.c), was)
	}
	for i, z := range l {
		s.can(z)
		if z != used(z) || z.Kind < step.Read || z.Kind > step.Cancel {
			s.Error(z)
		}
		if slices.Contains(l[:i], z) {
			s.Error(z, "twice")
		}
	}
	mine := slices.Clone(l)
	for i := range l {
		l[i] = step.Step{Kind: 99}
	}
	if again := step.Moves(s.p, s.c, 0); !slices.Equal(again, mine) {
		s.Error(again, mine)
	}
	return mine
}

// used is what a kind of a move uses of a step.
func used(s step.Step) step.Step {
	switch s.Kind {
	case step.Read:
		return step.Step{Kind: s.Kind, Read: s.Read}
	case step.Write, step.Fulfil:
		return step.Step{Kind: s.Kind, S: s.S}
	case step.Update, step.Redeem:
		return step.Step{Kind: s.Kind, Read: s.Read, S: s.S}
	case step.Cancel:
		return step.Step{Kind: s.Kind, Loc: s.Loc, S: s.S}
	}
	return step.Step{Kind: s.Kind}
}

// are sees to it that these are the moves, in this order.
func (s scene) are(l ...step.Step) {
	s.Helper()
	if got := s.moves(); !slices.Equal(got, l) {
		s.Errorf("%v, not %v", got, l)
	}
}

// P16.2: a Load reads messages in order, whoever owns them; then one's own reservations are given up.
func TestMovesOfLoad(t *testing.T) {
	l := []memory.Item{reserved(1, x, 7, 8), promise(1, x, 3, 4, 1, view.View{}), message(x, 1, 2, 5, view.View{}), promise(0, x, 5, 6, 5, upto(x, 6)), reserved(nobody, x, 2, 3), message(y, 4, 5, 1, view.View{})}
	for _, mode := range []string{"pln", "rlx", "acq"} {
		s := one(t, "r0 = load(x, "+mode+");", l...)
		s.are(read(0), read(2), read(4), read(6))
		s.with(reserved(0, y, 5, 6), reserved(0, x, 4, 5), reserved(0, y, 1, 3)).are(read(0), read(2), read(4), read(6), cancel(x, 4, 5), cancel(y, 1, 3), cancel(y, 5, 6))
		s.knowing(cur(upto(x, 2))).are(read(2), read(4), read(6))
		s.knowing(cur(upto(x, 9))).are()
		if s = s.knowing(cur(view.At(x, 4, false))); mode == "pln" {
			s.are(read(0), read(2), read(4), read(6))
		} else {
			s.are(read(4), read(6))
		}
	}
}

// P16.2: a Store writes at places, in order, then keeps promises, in order.
func TestMovesOfStore(t *testing.T) {
	l := []memory.Item{message(x, 3, 4, 5, view.View{}), reserved(1, x, 6, 8), message(y, 9, 10, 1, view.View{})}
	for _, mode := range []string{"pln", "rlx", "rel"} {
		s := one(t, "store(x, 1, "+mode+");", l...)
		all := []step.Step{write(0, 3), write(0, 1), write(1, 3), write(1, 2), write(4, 6), write(4, 5), write(5, 6), write(8, 9), write(9, 10)}
		s.are(all...)
		s.with(reserved(0, y, 2, 3), reserved(0, x, 8, 9)).are(append(all[:7:7], write(9, 10), write(10, 11), cancel(x, 8, 9), cancel(y, 2, 3))...)
		s.knowing(cur(view.At(x, 1, false))).are(write(0, 3), write(1, 3), write(1, 2), write(4, 6), write(4, 5), write(5, 6), write(8, 9), write(9, 10))
		s.knowing(cur(upto(x, 5))).are(write(4, 6), write(5, 6), write(8, 9), write(9, 10))
		s.knowing(cur(upto(x, 10))).are()
	}
	nothing := []memory.Item{promise(0, x, 8, 9, 1, view.View{}), promise(0, x, 1, 2, 1, view.View{}), promise(0, x, 2, 3, 2, view.View{}), promise(1, x, 4, 6, 1, view.View{}), promise(0, y, 1, 2, 1, view.View{}), reserved(0, x, 6, 8)}
	one(t, "store(x, 1, pln);", nothing...).are(write(0, 1), write(3, 4), write(9, 10), write(10, 11), fulfil(1, 2), fulfil(8, 9), cancel(x, 6, 8))
	one(t, "store(x, 1, rlx);", nothing...).are(write(0, 1), write(3, 4), write(9, 10), write(10, 11), cancel(x, 6, 8))
	one(t, "store(x, 2, pln);", nothing...).knowing(cur(view.At(x, 2, false))).are(write(3, 4), write(9, 10), write(10, 11), fulfil(2, 3), cancel(x, 6, 8))
	knowing := []memory.Item{promise(0, x, 1, 2, 1, upto(x, 2)), promise(0, x, 2, 3, 1, upto(x, 3)), promise(0, x, 3, 4, 1, upto(x, 3))}
	one(t, "store(x, 1, rlx);", knowing...).are(write(0, 1), write(4, 5), write(5, 6), fulfil(1, 2), fulfil(2, 3))
	one(t, "store(x, 1, rel);", knowing...).are()
	one(t, "store(y, 1, rel);", knowing...).are(write(0, 1), write(1, 2))
}

// P16.2: an update goes by messages that it reads; of each by places behind it, then by promises that it keeps there.
func TestMovesOfUpdate(t *testing.T) {
	l := []memory.Item{message(x, 3, 4, 7, view.View{}), message(x, 4, 5, 2, view.View{}), reserved(1, x, 7, 8), message(y, 9, 10, 1, view.View{})}
	for _, mode := range []string{"rlx", "acq", "rel", "ar"} {
		first, last := []step.Step{update(0, 3), update(0, 1)}, []step.Step{update(5, 7), update(5, 6)}
		all := append(first, last...)
		one(t, "r0 = swap(x, 1, "+mode+");", l...).are(all...)
		one(t, "r0 = add(x, 1, "+mode+");", l...).are(all...)
		one(t, "r0 = add(x, 1, "+mode+");", l...).knowing(cur(upto(x, 1))).are(last...)
		one(t, "r0 = cas(x, 7, 1, "+mode+");", l...).are(append(first[:2:2], read(5))...)
		one(t, "r0 = cas(x, 2, 1, "+mode+");", l...).are(append([]step.Step{read(0), read(4)}, last...)...)
		one(t, "r0 = cas(x, 9, 1, "+mode+");", l...).with(reserved(0, y, 1, 2), reserved(0, x, 5, 6)).are(read(0), read(4), read(5), cancel(x, 5, 6), cancel(y, 1, 2))
		one(t, "r0 = swap(x, 1, "+mode+");", l...).with(message(x, 8, 9, 7, view.View{})).are(update(0, 3), update(0, 1), update(5, 7), update(5, 6), update(9, 10))
	}
	// each promise at the message where it begins, behind places that are there; one's own promises are read, too
	kept := []memory.Item{promise(0, x, 0, 1, 9, upto(x, 1)), promise(0, x, 1, 2, 9, upto(x, 2)), message(x, 5, 6, 7, view.View{}), promise(0, x, 6, 7, 9, upto(x, 7)), promise(0, x, 7, 8, 8, upto(x, 8)), promise(1, x, 8, 9, 9, upto(x, 9)), reserved(0, x, 10, 11)}
	for _, mode := range []string{"rlx", "acq"} {
		one(t, "r0 = swap(x, 9, "+mode+");", kept...).are(redeem(0, 1), redeem(1, 2), update(2, 5), update(2, 3), redeem(6, 7), update(9, 10), cancel(x, 10, 11))
		one(t, "r0 = cas(x, 7, 9, "+mode+");", kept...).are(redeem(0, 1), read(1), read(2), redeem(6, 7), read(7), read(8), read(9), cancel(x, 10, 11))
	}
	for _, mode := range []string{"rel", "ar"} {
		one(t, "r0 = swap(x, 9, "+mode+");", kept...).are(cancel(x, 10, 11))
		one(t, "r0 = cas(x, 7, 9, "+mode+");", kept...).are(read(1), read(2), read(7), read(8), read(9), cancel(x, 10, 11))
	}
	one(t, "r0 = add(x, 2, rlx);", promise(0, x, 0, 2, 9, upto(x, 2))).are(redeem(0, 2), update(2, 3))
	one(t, "r0 = add(x, 2, rlx);", promise(0, x, 1, 2, 9, upto(x, 2))).are(update(0, 1), update(2, 3)) // it begins at no message's end
}

// P16.2: a Fence, if it can be done; then reservations.
func TestMovesOfFence(t *testing.T) {
	for _, mode := range []string{"acq", "rel", "ar", "sc"} {
		one(t, "fence("+mode+");").are(fence)
		one(t, "fence("+mode+");", reserved(0, y, 1, 2), promise(0, x, 1, 2, 3, view.View{})).are(fence, cancel(y, 1, 2))
		if s := one(t, "fence("+mode+");", reserved(0, y, 1, 2), promise(0, x, 1, 2, 3, upto(x, 2))); mode == "acq" {
			s.are(fence, cancel(y, 1, 2))
		} else {
			s.are(cancel(y, 1, 2))
		}
	}
	made(t, "thread { fence(sc); } exists 1;").are(fence)
	made(t, "thread { r0 = 1; } exists 1;").are()
}

// P16.2: at the latest times there are fewer places, or none.
func TestMovesAtTheLatestTimes(t *testing.T) {
	const late = span.MaxTime
	for early, want := range map[int][]step.Step{late: nil, late - 1: {{S: in(late-1, late)}}, late - 2: {{S: in(late-2, late-1)}, {S: in(late-1, late)}}} {
		l := []memory.Item{message(x, 0, early, 1, view.View{})}
		var writes, updates []step.Step
		for _, z := range want {
			z.Kind = step.Write
			writes = append(writes, z)
			if z.S.From() == early {
				updates = append(updates, update(early, z.S.To()))
			}
		}
		one(t, "store(x, 1, rel);", l...).are(writes...)
		one(t, "r0 = swap(x, 1, ar);", l...).are(updates...)
	}
}

// P16.2: a full location has moves that add nothing alone.
func TestMovesOfFullLocation(t *testing.T) {
	var l []memory.Item
	for i := range api.MaxMessages - 1 {
		l = append(l, message(x, 2*i+1, 2*i+2, 7, view.View{}))
	}
	own := l[5]
	own.Owner, own.V = 0, upto(x, 12)
	l[5] = own
	one(t, "store(x, 7, rlx);", l...).are(fulfil(11, 12))
	one(t, "store(y, 7, rlx);", l...).are(write(0, 1), write(1, 2))
	one(t, "r0 = swap(x, 7, rlx);", l...).are()
	if n := len(one(t, "r0 = swap(x, 7, rlx);", l[1:]...).moves()); n != 2+37+1 { // behind the first one; in each gap of one time; behind the last one
		t.Error(n)
	}
	if n := len(one(t, "r0 = load(x, rlx);", l...).moves()); n != api.MaxMessages {
		t.Error(n)
	}
}

// P16.2: what threads run through, each time one of Moves, is all of it moves; in the end there is none.
func TestMovesToTheEnd(t *testing.T) {
	s := one(t, "r0 = load(x, acq); r1 = cas(y, 8, 1, ar); store(x, r1, rel); fence(sc); r2 = add(x, r1, rlx); store(y, r2, pln);")
	for _, kind := range []uint8{step.Read, step.Update, step.Write, step.Fence, step.Update, step.Write} {
		l := s.moves()
		if len(l) == 0 || l[0].Kind != kind {
			t.Fatal(kind, l)
		}
		s = s.can(l[0])
	}
	s.are()
	if r := s.c.T[0].S; r != (thread.State{At: -1, R: [api.Registers]uint64{7, 8, 8}}) {
		t.Error(r)
	}
}
