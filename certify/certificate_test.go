package certify_test

import (
	"math"
	"reflect"
	"slices"
	"strings"
	"testing"

	"troth/api"
	"troth/certify"
	"troth/config"
	"troth/memory"
	"troth/step"
	"troth/tview"
	"troth/unroll"
	"troth/view"
)

// certificate is a thread's. It sees to it that what was handed in stays, that the answer is the caller's own, and that it is the same again.
func (s scene) certificate(i int) ([]step.Step, bool) {
	s.Helper()
	c, list := roomy(s.c)
	was, threads := tell(c), list()
	first, is := certify.Certify(s.p, c, i)
	held := slices.Clone(first)
	for n := range first {
		first[n] = step.Step{Kind: 99}
	}
	again, same := certify.Certify(s.p, c, i)
	if is != same || !slices.Equal(again, held) {
		s.Fatal("certified again", again, held)
	}
	if !reflect.DeepEqual(tell(c), was) || !slices.Equal(list(), threads) {
		s.Fatal("what was handed in is another one", tell(c), was)
	}
	return again, is
}

// shows sees to it that a certificate is one: its steps are of Moves, each of which can be done, from Start on, and lead to where the thread owns no promises.
func (s scene) shows(i int, l []step.Step) {
	s.Helper()
	c, is := certify.Start(s.c)
	if !is {
		s.Fatal("it can't start")
	}
	for n, x := range l {
		next, is := step.Do(s.p, c, i, x)
		if !is || !slices.Contains(step.Moves(s.p, c, i), x) {
			s.Fatalf("%d of %v, %v, at %v: it can't be done (%v), or is none of Moves", n, l, x, tell(c), is)
		}
		c = next
	}
	for _, z := range c.M.Owned(i) {
		if !z.Res {
			s.Fatalf("%v leave %v", l, z)
		}
	}
}

// keeps sees to it that the thread 0 is certified, by just these steps, or, of none, by some.
func (s scene) keeps(want ...step.Step) {
	s.Helper()
	l, is := s.certificate(0)
	if !is || len(want) > 0 && !slices.Equal(l, want) {
		s.Errorf("%v %v, not %v, at %v", is, l, want, tell(s.c))
	}
	if is {
		s.shows(0, l)
	}
}

// breaks sees to it that the thread 0 is not certified.
func (s scene) breaks() {
	s.Helper()
	if l, is := s.certificate(0); is || len(l) > 0 {
		s.Errorf("%v %v at %v", is, l, tell(s.c))
	}
}

// bare sees to it that the thread 0 is certified by no steps.
func (s scene) bare() {
	s.Helper()
	if l, is := s.certificate(0); !is || len(l) > 0 {
		s.Errorf("%v %v at %v", is, l, tell(s.c))
	}
}

// P17.3: who owns no promises at first is certified by no steps, whatever else it owns, wherever it is, and whatever others own.
func TestNoPromises(t *testing.T) {
	others := []memory.Item{promise(1, x, 3, 4, 1, upto(x, 4)), reserved(1, y, 3, 4), reserved(nobody, y, 4, 5), message(y, 5, 6, 1, view.View{})}
	for _, text := range []string{"", "store(x, 1, rlx);", "r0 = swap(x, 1, ar);", "fence(sc);", "while (1) { }"} {
		one(t, text).bare()
		one(t, text, others...).bare()
		one(t, text, append(others, reserved(0, x, 4, 5), reserved(0, y, 0, 1))...).bare()
	}
}

// P17.3: a Store, or an update, that keeps the promise, at once.
func TestKeptAtOnce(t *testing.T) {
	one(t, "store(x, 5, rlx);", promise(0, x, 3, 4, 5, upto(x, 4))).keeps(fulfil(70, 140))
	one(t, "store(y, 5, pln);", promise(0, y, 0, 4, 5, view.View{})).keeps(fulfil(0, 70))
	one(t, "r0 = swap(x, 5, rlx);", promise(0, x, 0, 4, 5, upto(x, 4))).keeps(redeem(0, 70))
	one(t, "r0 = add(x, 2, acq);", message(x, 2, 3, 9, view.View{}), promise(0, x, 3, 4, 11, upto(x, 4))).keeps(redeem(140, 210))
	one(t, "r0 = cas(y, 8, 1, rlx); store(x, 1, rlx);", promise(0, y, 0, 1, 1, upto(y, 1))).keeps(redeem(0, 70))
	made(t, "thread { } thread { store(x, 1, rlx); } thread { store(x, 1, rlx); } exists x;", promise(0, x, 1, 2, 1, upto(x, 2))).breaks() // others could
	s := made(t, "thread { } thread { store(x, 1, rlx); } thread { store(x, 1, rlx); } exists x;", promise(2, x, 1, 2, 1, upto(x, 2)))
	for i, want := range [][]step.Step{nil, nil, {fulfil(70, 140)}} {
		if l, is := s.certificate(i); !is || !slices.Equal(l, want) {
			t.Error(i, is, l)
		}
	}
}

// P17.3: more than one promise, and what stands ahead of them.
func TestKeptLater(t *testing.T) {
	own := promise(0, y, 0, 1, 5, upto(y, 1))
	one(t, "r0 = load(x, rlx); store(y, 5, rlx);", own).keeps(read(0), fulfil(0, 70))
	one(t, "r0 = load(x, rlx); store(y, r0, rlx);", own, message(x, 1, 2, 4, view.View{}), message(x, 2, 3, 5, view.View{}), message(x, 3, 4, 6, view.View{})).keeps(read(210), fulfil(0, 70))
	one(t, "r0 = load(x, rlx); if (r0 == 7) { } else { store(y, 5, rlx); }", own, promise(1, x, 1, 2, 4, view.View{})).keeps(read(140), fulfil(0, 70)) // another one's promise may be read
	one(t, "fence(acq); r0 = load(y, rlx); r0 = load(x, rlx); store(y, 5, rlx);", own).keeps(fence, read(0), read(0), fulfil(0, 70))
	one(t, "store(x, 1, rlx); store(y, 5, rlx);", own).keeps()
	one(t, "store(x, 1, rel); store(y, 5, rlx); r0 = load(x, rlx);", own).keeps()
	one(t, "store(x, 1, pln); store(x, 2, rel); r0 = swap(x, 3, ar); store(y, 5, rlx);", own).keeps() // behind all there is room
	one(t, "store(y, 5, rlx); store(y, 6, rlx);", own, promise(0, y, 1, 2, 6, upto(y, 2))).keeps(fulfil(0, 70), fulfil(70, 140))
	one(t, "store(y, 5, rlx); store(x, 6, rlx);", promise(0, x, 2, 4, 6, upto(x, 4)), own).keeps(fulfil(0, 70), fulfil(70, 140))
	one(t, "r0 = add(x, 1, rlx); r1 = add(x, 1, rlx); r2 = add(x, 1, rlx);", promise(0, x, 0, 1, 8, upto(x, 1)), promise(0, x, 1, 2, 9, upto(x, 2)), promise(0, x, 2, 3, 10, upto(x, 3))).keeps(redeem(0, 70), redeem(70, 140), redeem(140, 210))
	one(t, "store(y, 5, rlx); store(y, 5, rlx);", own).keeps(fulfil(0, 70)) // by the first one alone: the second one would have to be ahead of it
	one(t, "store(y, 4, rlx); store(y, 5, rlx);", promise(0, y, 5, 6, 5, upto(y, 6))).breaks()
	one(t, "r0 = load(y, rlx); store(y, 5, rlx);", own).keeps(read(0), fulfil(0, 70)) // of its own promise it would know too much
	one(t, "r1 = 1; while (r1) { r1 = load(x, rlx); } store(y, 5, rlx);", own, message(x, 1, 2, 0, view.View{})).keeps(read(140), fulfil(0, 70))
	one(t, "r1 = 2; while (r1) { r1 = r1 - 1; } store(y, 5, rlx);", own).breaks() // stuck: its loop was unrolled once
}

// P17.3: a promise by another number, with another view, at another location, or another span than what is written.
func TestNotKept(t *testing.T) {
	for _, own := range []memory.Item{
		promise(0, x, 0, 1, 6, upto(x, 1)), promise(0, x, 0, 1, 5, view.View{}), promise(0, x, 0, 1, 5, view.At(x, 1, false)), promise(0, y, 0, 1, 5, upto(y, 1)),
		promise(0, x, 0, 1, 5, upto(x, 1).Join(upto(y, 5))),
	} {
		one(t, "store(x, 5, rlx);", own, message(y, 4, 5, 1, view.View{})).breaks()
		one(t, "r0 = load(y, rlx); store(x, 5, rlx); store(x, 5, rlx);", own, message(y, 4, 5, 1, view.View{})).breaks()
		one(t, "r0 = swap(x, 5, rlx);", own, message(y, 4, 5, 1, view.View{})).breaks()
	}
	one(t, "store(x, 5, pln);", promise(0, x, 0, 1, 5, upto(x, 1))).breaks()
	one(t, "store(x, 5, rel);", promise(0, x, 0, 1, 5, upto(x, 1))).breaks()
	one(t, "r0 = swap(x, 5, rlx);", promise(0, x, 1, 2, 5, upto(x, 2))).breaks() // no message ends where it begins
	one(t, "r0 = cas(x, 6, 5, rlx);", promise(0, x, 0, 1, 5, upto(x, 1))).breaks()
	one(t, "r0 = cas(x, 6, 5, rlx); store(x, 5, rlx);", promise(0, x, 0, 1, 5, upto(x, 1))).keeps(read(0), fulfil(0, 70))
	one(t, "while (1) { store(x, 5, rlx); } store(x, 5, rlx);", promise(0, x, 0, 1, 5, upto(x, 1)), promise(0, x, 1, 2, 5, upto(x, 2))).breaks()
	one(t, "while (r0 < 9) { r0 = 1; } store(x, 5, rlx);", promise(0, x, 0, 1, 5, upto(x, 1))).breaks()
	one(t, "", promise(0, x, 0, 1, 5, upto(x, 1))).breaks()
	one(t, "store(x, 5, rlx);", promise(0, x, 0, 1, 5, upto(x, 1)), promise(0, x, 1, 2, 5, upto(x, 2))).breaks() // one write, two promises
	one(t, "if (r0) { store(x, 5, rlx); }", promise(0, x, 0, 1, 5, upto(x, 1))).breaks()
	one(t, "r0 = load(y, rlx); store(x, r0, rlx);", promise(0, x, 0, 1, 5, upto(x, 1))).breaks() // none writes 5 to y
	one(t, "r0 = load(x, rlx); store(x, 5, rlx);", promise(0, x, 0, 1, 5, upto(x, 1))).knowing(cur(upto(x, 1))).breaks()
}

// P17.3: what a fence, or a write by rel, asks for, with a promise that has a view, and with one that has none.
func TestKeptBehindFences(t *testing.T) {
	for _, mode := range []string{"acq", "rel", "ar", "sc"} {
		s := one(t, "fence("+mode+"); store(y, 5, rlx);", promise(0, y, 0, 1, 5, upto(y, 1)))
		if mode == "acq" {
			s.keeps(fence, fulfil(0, 70))
		} else {
			s.breaks()
		}
	}
	one(t, "store(y, 5, rlx); fence(rel);", promise(0, y, 0, 1, 5, upto(y, 1))).keeps(fulfil(0, 70))
	one(t, "store(y, 1, rel); store(y, 5, rlx);", promise(0, y, 0, 1, 5, upto(y, 1))).breaks()
	one(t, "store(x, 1, rel); store(y, 5, rlx);", promise(0, y, 0, 1, 5, upto(y, 1))).keeps()
	one(t, "fence(rel); store(y, 5, pln);", promise(0, y, 0, 1, 5, view.View{})).keeps(fence, fulfil(0, 70))
	one(t, "fence(ar); store(y, 5, pln);", promise(0, y, 0, 1, 5, view.View{})).keeps(fence, fulfil(0, 70))
}

// P17.3: S is of the capped memory's latest messages: who goes by it knows all messages, what it promised too, and keeps no promise ahead of them.
func TestKeptBehindSc(t *testing.T) {
	for _, late := range []times{{}, {1, 1}, {9, 9, 9, 9}} {
		s := one(t, "fence(sc); store(y, 5, pln);", promise(0, y, 0, 1, 5, view.View{}))
		s.c.S = late
		s.breaks()
	}
	one(t, "fence(sc); r0 = load(x, rlx); store(y, 5 + (r0 == 7), pln);", promise(0, y, 0, 1, 5, view.View{})).breaks()
	one(t, "store(y, 5, pln); fence(sc);", promise(0, y, 0, 1, 5, view.View{})).keeps(fulfil(0, 70))
	one(t, "store(y, 5, pln); fence(sc); r0 = load(x, rlx); if (r0 == 4) { store(x, 6, pln); }", promise(0, y, 0, 1, 5, view.View{}), message(x, 3, 4, 4, view.View{})).keeps(fulfil(0, 70))
}

// P17.3: an update needs a place right behind what it reads, and capped memory has none: but where the thread reserved it.
func TestKeptByWayOfCancel(t *testing.T) {
	own := promise(0, y, 0, 1, 5, upto(y, 1))
	text := "r0 = swap(x, 1, rlx); store(y, 5, rlx);"
	one(t, text, own).breaks()
	one(t, text, own, reserved(0, x, 0, 1)).keeps()
	one(t, text, own, reserved(0, x, 0, 1), message(x, 1, 2, 5, view.View{})).keeps()
	one(t, text, own, message(x, 0, 2, 5, view.View{}), reserved(0, x, 2, 3)).keeps()
	one(t, text, own, reserved(0, x, 1, 2)).breaks()      // it is not behind a message
	one(t, text, own, reserved(1, x, 0, 1)).breaks()      // nor another one's
	one(t, text, own, reserved(nobody, x, 0, 1)).breaks() // nor nobody's
	one(t, text, own, reserved(0, y, 1, 2)).breaks()      // nor elsewhere
	one(t, text, own, message(x, 5, 6, 7, upto(x, 6))).breaks()
	one(t, text, own, reserved(0, x, 0, 1)).knowing(cur(upto(x, 1))).breaks() // what it reads is past
	s := one(t, text, own, reserved(0, x, 0, 1), reserved(0, y, 1, 2))        // a reservation that it does not need it may own still
	l, _ := s.certificate(0)
	if s.keeps(); len(l) != 3 || l[0] != cancel(x, 0, 70) || l[1].Kind != step.Update || l[2] != fulfil(0, 70) {
		t.Error(l)
	}
	one(t, "store(x, 1, rlx); store(x, 5, rlx);", reserved(0, x, 0, 1), promise(0, x, 1, 2, 5, upto(x, 2))).keeps()
	one(t, "store(x, 1, rlx); store(x, 5, rlx);", reserved(1, x, 0, 1), promise(0, x, 1, 2, 5, upto(x, 2))).breaks()
	one(t, "store(x, 1, rlx); store(x, 5, rlx);", promise(1, x, 0, 1, 1, upto(x, 1)), promise(0, x, 1, 2, 5, upto(x, 2))).breaks()
	one(t, "store(x, 1, rlx); store(x, 5, rlx);", promise(0, x, 3, 4, 5, upto(x, 4))).breaks() // there was room, but none in capped memory
}

// P17.3: in what the thread reserved there is room for all that its code can write, whatever it writes there.
func TestKeptBehindManyWrites(t *testing.T) {
	for n := 1; n <= 30; n++ {
		s := one(t, strings.Repeat("store(x, 1, rlx); ", n)+"store(x, 5, rlx);", reserved(0, x, 0, 1), promise(0, x, 1, 2, 5, upto(x, 2)))
		s.keeps()
		if l, _ := s.certificate(0); len(l) != n+2 {
			t.Error(n, l)
		}
		one(t, strings.Repeat("r0 = add(x, 1, rlx); ", n)+"store(x, 5, rlx);", reserved(0, x, 0, 1), promise(0, x, 1, 2, 5, upto(x, 2))).keeps()
		one(t, strings.Repeat("store(x, 1, rlx); ", n)+"store(y, 5, rlx);", promise(0, y, 0, 1, 5, upto(y, 1))).keeps()
		one(t, strings.Repeat("store(x, 1, rlx); ", n)+"store(y, 5, rlx);", promise(0, y, 0, 1, 6, upto(y, 1))).breaks() // R1: there is soon an answer
		one(t, strings.Repeat("store(x, 1, rlx); ", n)+"store(x, 5, rlx);", reserved(0, x, 0, 1), promise(0, x, 1, 2, 6, upto(x, 2))).breaks()
	}
}

// P17.3: what a thread knows as cur alone is in the way of its promises: it keeps one at a time that it has heard of, or has told.
func TestKeptAheadOfWhatIsKnown(t *testing.T) {
	own := promise(0, x, 3, 4, 5, upto(x, 4))
	late := message(x, 6, 7, 5, view.View{})
	for _, text := range []string{"store(x, 5, rlx);", "r0 = load(y, rlx); store(x, 5, rlx); r0 = load(x, rlx);"} {
		one(t, text, own, late).knowing(tview.Views{Acq: upto(x, 4)}).keeps()
		one(t, text, own, late).knowing(tview.Views{Acq: upto(x, 7), Rel: [api.MaxLocations]view.View{y: upto(x, 7)}}).keeps()
		one(t, text, own, late).knowing(cur(upto(y, 9).Join(upto(x, 3)))).keeps()
		for _, v := range []view.View{upto(x, 4), view.At(x, 4, false), upto(x, 7), view.At(x, 7, false), upto(x, 9)} {
			one(t, text, own, late).knowing(cur(v)).breaks()
		}
	}
}

// P17.3, R1: once a promise can't be kept any more there is soon an answer, however many ways lead on.
func TestBrokenSoon(t *testing.T) {
	own := promise(0, x, 0, 1, 6, upto(x, 1))
	many := append(row(y, 36, 0), own, message(x, 1, 2, 5, view.View{}))
	for n := range many {
		many[n].N = uint64(n)
	}
	loads := strings.Repeat("r0 = load(y, pln); r1 = load(y, pln); r2 = load(y, pln); r3 = load(y, pln); r4 = load(y, pln); r5 = load(y, pln); ", 2)
	one(t, "store(x, 1, rlx); "+loads+"store(x, 6, rlx);", many...).breaks()
	for _, v := range []view.View{upto(x, 1), upto(x, 2), view.At(x, 1, false), view.At(x, 2, false)} {
		one(t, loads+"store(x, 6, rlx);", many...).knowing(cur(v)).breaks()
	}
}

// P17.1 to P17.3, R2, R3: programs stay as they were, and nothing is left behind: others, asked of between, change no answer.
func TestProgramsStay(t *testing.T) {
	text := "r0 = load(x, rlx); store(y, r0 - 2, rlx);"
	s, fresh := one(t, text, promise(0, y, 0, 1, 5, upto(y, 1))), one(t, text)
	first := len(s.reach(0, all))
	for _, other := range []scene{one(t, "store(y, 5, rlx);", promise(0, y, 0, 1, 6, upto(y, 1))), one(t, "", promise(0, y, 0, 1, 5, upto(y, 1)))} {
		s.keeps(read(0), fulfil(0, 70))
		other.breaks()
		other.reach(0, all)
	}
	if n := len(s.reach(0, all)); n != first || !reflect.DeepEqual(s.p, fresh.p) {
		t.Error(n, first, s.p)
	}
}

// P17.3: where memory can't be capped none is certified, promises or not; where it just can, all is as elsewhere.
func TestNoCapFits(t *testing.T) {
	own := promise(0, y, 0, 1, 5, upto(y, 1))
	for n := 30; n < 40; n++ {
		for _, l := range [][]memory.Item{nil, {own}} {
			s := one(t, "store(y, 5, rlx);", append(row(x, n, 0), l...)...)
			switch {
			case n == 39:
				s.breaks()
			case len(l) > 0:
				s.keeps(fulfil(0, 70))
			default:
				s.bare()
			}
		}
	}
	one(t, "r0 = load(x, rlx); store(x, 5, rlx); store(y, 5, rlx);", append(row(x, 37, 0), own)...).keeps() // the last one that there may be
	one(t, "r0 = load(x, rlx); store(x, 5, rlx); store(y, 5, rlx);", append(row(x, 38, 0), own)...).breaks()
}

// P17.3: of no such thread: it owns no promises, whoever owns what.
func TestCertifyNoSuchThread(t *testing.T) {
	s := one(t, "store(x, 1, rlx);", promise(0, x, 1, 2, 9, upto(x, 2)), promise(1, x, 2, 3, 9, upto(x, 3)), promise(2, x, 3, 4, 9, upto(x, 4)), promise(3, x, 4, 5, 9, upto(x, 5)))
	none := func(s scene, i int) {
		t.Helper()
		if l, is := s.certificate(i); !is || len(l) > 0 {
			t.Error(i, is, l)
		}
	}
	for _, i := range []int{-1, -2, 2, 3, api.MaxThreads, math.MaxInt, math.MinInt} {
		none(s, i)
	}
	more, fewer, bare := s, s, s
	more.c.T = append(more.c.T[:2:2], more.c.T[0]) // the program has it not
	none(more, 2)
	fewer.c.T = s.c.T[:1] // the configuration has it not
	none(fewer, 1)
	bare.p.Threads = nil
	none(bare, 0)
	none(bare, 1)
	none(scene{t, unroll.Program{}, config.Config{}}, 0)
	for i := range 2 {
		if l, is := s.certificate(i); is || len(l) > 0 {
			t.Error(i, is, l)
		}
	}
}

// P17.3: it hangs on the order of times alone.
func TestCertifyOfSpread(t *testing.T) {
	for _, s := range []scene{
		one(t, "r0 = load(x, acq); store(y, r0, rlx);", message(x, 2, 5, 5, view.View{}), promise(0, y, 1, 3, 5, upto(y, 3)), reserved(1, y, 3, 4)),
		one(t, "r0 = load(x, acq); store(y, r0, rlx);", message(x, 2, 5, 6, upto(y, 3)), promise(0, y, 1, 3, 5, upto(y, 3))),
		one(t, "r0 = swap(x, 1, rlx); store(y, 5, rlx);", promise(0, y, 0, 1, 5, upto(y, 1)), reserved(0, x, 0, 2), message(x, 5, 6, 3, view.View{})),
	} {
		want, could := s.certificate(0)
		for _, n := range []int{2, 3, 70, 1000} {
			wide := s
			wide.c, _ = s.c.Spread(n)
			if l, is := wide.certificate(0); is != could || !slices.Equal(l, want) {
				t.Error(n, is, l)
			}
		}
	}
}

// P17.3: a thread that writes by rel tells what it knows; a promise behind it must have known so.
func TestKeptWithViews(t *testing.T) {
	know := tview.Views{Cur: upto(x, 2), Acq: upto(x, 2), Rel: [api.MaxLocations]view.View{y: upto(x, 2)}}
	l := []memory.Item{message(x, 1, 2, 3, view.View{}), promise(0, y, 0, 1, 5, upto(y, 1).Join(upto(x, 2)))}
	one(t, "store(y, 5, rlx);", l...).knowing(know).keeps(fulfil(0, 70))
	one(t, "store(y, 5, rlx);", l...).knowing(cur(upto(x, 2))).breaks() // it knows, but did not tell
	one(t, "fence(rel); store(y, 5, rlx);", l...).knowing(cur(upto(x, 2))).breaks()
	one(t, "r0 = load(x, acq); r1 = swap(y, 5, rlx);", append(l, message(y, 5, 6, 1, upto(x, 2)))...).breaks()
	one(t, "r0 = add(y, 1, rlx);", message(x, 1, 2, 3, view.View{}), message(y, 1, 2, 4, upto(y, 2).Join(upto(x, 2))), promise(0, y, 2, 3, 5, upto(y, 3).Join(upto(y, 2)).Join(upto(x, 2)))).keeps(redeem(140, 210))
}
