package certify_test

import (
	"math"
	"reflect"
	"slices"
	"testing"

	"troth/api"
	"troth/certify"
	"troth/config"
	"troth/memory"
	"troth/step"
	"troth/tview"
	"troth/unroll"
	"troth/view"
)

// reach are the configurations to which a thread can come, as many as may be told. It sees to it that no more are told, that what was handed in stays, and that whoever is told one may write to it.
func (s scene) reach(i, most int) (l []config.Config) {
	s.Helper()
	c, list := roomy(s.c)
	was, threads := tell(c), list()
	certify.Reach(s.p, c, i, func(at config.Config) bool {
		if len(l) == most {
			s.Fatal("told of one more")
		}
		l = append(l, at.With(-1, config.Thread{}))
		spoil(at)
		return len(l) < most
	})
	if !reflect.DeepEqual(tell(c), was) || !slices.Equal(list(), threads) {
		s.Fatal("what was handed in is another one", tell(c), was)
	}
	return l
}

// all is more than any thread of these tests comes to.
const all = math.MaxInt

// keys are texts of configurations told by ranks, in order. It sees to it that they differ.
func keys(t *testing.T, l []config.Config) (k []string) {
	t.Helper()
	for _, c := range l {
		k = append(k, c.Ranks().Key())
	}
	slices.Sort(k)
	if n := len(slices.Compact(slices.Clone(k))); n != len(l) {
		t.Errorf("%d configurations, told as %d", n, len(l))
	}
	return k
}

// can is the scene behind steps of the thread 0.
func (s scene) can(l ...step.Step) scene {
	s.Helper()
	for _, x := range l {
		next, is := step.Do(s.p, s.c, 0, x)
		if !is {
			s.Fatal(x, "can't be done at", tell(s.c))
		}
		s.c = next
	}
	return s
}

// comes sees to it that the thread 0 comes to this scene, and to just what is behind these ways, with times as they are there.
func (s scene) comes(ways ...[]step.Step) {
	s.Helper()
	got := s.reach(0, all)
	want := []config.Config{s.c}
	for _, l := range ways {
		want = append(want, s.can(l...).c)
	}
	if !slices.Equal(keys(s.T, got), keys(s.T, want)) {
		s.Errorf("%d, not %d: %v", len(got), len(want), got)
	}
	if len(got) == 0 || !alike(got[0], s.c) {
		s.Errorf("not this one first: %v", got)
	}
	for _, c := range got {
		if !slices.ContainsFunc(want, func(w config.Config) bool { return alike(c, w) }) {
			s.Errorf("%v is none of these", tell(c))
		}
	}
}

// way is steps, one behind the other.
func way(l ...step.Step) []step.Step { return l }

// P17.2: to where a thread comes by each kind of step, worked out by hand.
func TestReach(t *testing.T) {
	one(t, "").comes()
	one(t, "while (1) { store(x, 1, rlx); }").comes(way(write(0, 1)), way(write(1, 2))) // then it is stuck
	one(t, "store(x, 1, rlx);").comes(way(write(0, 1)), way(write(1, 2)))
	one(t, "store(x, 1, rlx); r0 = load(x, rlx);").comes(way(write(0, 1)), way(write(1, 2)), way(write(0, 1), read(1)), way(write(1, 2), read(2)))
	one(t, "fence(sc); r0 = load(x, rlx);").comes(way(fence), way(fence, read(0)))
	one(t, "r0 = load(x, rlx);", message(x, 0, 1, 5, view.View{}), promise(1, x, 3, 4, 6, view.View{}), promise(0, x, 4, 5, 6, view.View{})).comes(way(read(0)), way(read(1)), way(read(4)), way(read(5)))
	one(t, "r0 = load(x, rlx);", message(x, 0, 1, 7, view.View{})).knowing(cur(upto(x, 1))).comes(way(read(1)))
	one(t, "r0 = swap(x, 1, rlx);", promise(0, x, 3, 5, 1, upto(x, 5)), promise(0, x, 5, 6, 1, upto(x, 6))).comes(way(update(0, 3)), way(update(0, 1)), way(redeem(5, 6)), way(update(6, 7)))
	one(t, "r0 = cas(x, 7, 1, rlx);", message(x, 0, 1, 5, view.View{})).comes(way(read(1)))
	one(t, "store(x, 1, rlx);", promise(0, x, 0, 1, 1, upto(x, 1)), promise(0, x, 1, 2, 2, upto(x, 2))).comes(way(fulfil(0, 1)), way(write(2, 3)), way(write(3, 4)))
	one(t, "store(y, 1, rel); store(x, 1, rel); fence(rel);", promise(0, x, 0, 1, 1, upto(x, 1))).comes(way(write(0, 1)), way(write(1, 2)))
}

// P17.2: what more than one way leads to is told once.
func TestReachByMoreWays(t *testing.T) {
	c := cancel(y, 2, 3)
	s := one(t, "r0 = load(x, rlx); r0 = 5;", message(x, 0, 1, 7, view.View{}), reserved(0, y, 2, 3)) // r0 does not tell what was read, but the thread's views do
	s.comes(way(c), way(read(0)), way(read(1)), way(c, read(0)), way(c, read(1)))
	one(t, "fence(acq); fence(ar);", reserved(0, y, 2, 3)).comes(way(c), way(fence), way(fence, fence), way(c, fence), way(c, fence, fence))
	one(t, "", reserved(0, y, 2, 3), reserved(0, x, 4, 5), reserved(0, x, 5, 7), reserved(1, x, 7, 8)).comes( // what is free is told by ranks
		way(c), way(cancel(x, 4, 5)), way(cancel(x, 5, 7)), way(c, cancel(x, 4, 5)), way(c, cancel(x, 5, 7)), way(cancel(x, 4, 5), cancel(x, 5, 7)), way(c, cancel(x, 4, 5), cancel(x, 5, 7)))
	one(t, "store(x, 1, rlx);", reserved(0, x, 0, 9), message(x, 9, 10, 5, view.View{})).comes(
		way(cancel(x, 0, 9)), way(cancel(x, 0, 9), write(0, 9)), way(cancel(x, 0, 9), write(0, 1)), way(cancel(x, 0, 9), write(1, 9)), way(cancel(x, 0, 9), write(1, 2)), way(cancel(x, 0, 9), write(10, 11)), way(cancel(x, 0, 9), write(11, 12)),
		way(write(10, 11)), way(write(11, 12)))
}

// P17.2: times stay those of the configuration that was handed in; of what is told by ranks alike, as in gaps that are twice as wide, one is told.
func TestReachKeepsTimes(t *testing.T) {
	s := one(t, "store(x, 1, rlx);", message(x, 1000, 2000, 5, view.View{}), promise(0, x, 3000, 3500, 1, upto(x, 3500))).knowing(cur(upto(x, 2000)))
	s.comes(way(write(2000, 3000)), way(write(2000, 2001)), way(write(2001, 3000)), way(write(2001, 2002)), way(fulfil(3000, 3500)), way(write(3500, 3501)), way(write(3501, 3502)))
	two := one(t, "store(x, 1, rlx);", reserved(0, x, 0, 2), reserved(0, x, 2, 9), message(x, 9, 10, 5, view.View{}))
	for _, c := range two.reach(0, all) {
		for _, z := range c.M.List(x)[1:] {
			if z.S.To() > 12 {
				t.Error(z)
			}
		}
	}
	keys(t, two.reach(0, all))
}

// P17.2: a thread alone: all others stay as they are, whatever they could do; and whichever it is, it goes by its own code.
func TestReachOfEachThread(t *testing.T) {
	s := made(t, "thread { store(x, 1, rlx); } thread { r0 = load(y, rlx); } thread { fence(sc); fence(rel); } exists x + y;", promise(1, y, 0, 1, 5, view.View{}), reserved(0, y, 1, 2))
	for i, want := range []int{6, 3, 3} {
		l := s.reach(i, all)
		if keys(t, l); len(l) != want {
			t.Error(i, len(l))
		}
		for _, c := range l {
			for j := range 3 {
				if j != i && c.T[j] != s.c.T[j] {
					t.Error(i, c)
				}
			}
		}
	}
}

// P17.2: no more are told once do says false, wherever that is; up to there they are the same ones.
func TestReachStops(t *testing.T) {
	s := one(t, "store(x, 1, rlx); r0 = load(x, rlx); store(y, r0, rlx);", message(x, 3, 4, 5, view.View{}), reserved(0, y, 2, 3))
	l := s.reach(0, all)
	if len(l) < 50 {
		t.Fatal(len(l))
	}
	for most := 1; most <= len(l); most++ {
		few := s.reach(0, most)
		if len(few) != most || !slices.EqualFunc(few, l[:most], alike) {
			t.Fatal(most, len(few))
		}
	}
}

// P17.2: only steps of the kinds Read to Cancel: nothing is promised, and nothing reserved.
func TestReachPromisesNothing(t *testing.T) {
	s := one(t, "store(x, 1, rlx); r0 = swap(y, 1, rlx); store(y, 5, rlx);", promise(0, y, 3, 4, 5, upto(y, 4)), reserved(0, x, 2, 3))
	for _, c := range s.reach(0, all) {
		for _, z := range c.M.Owned(0) {
			if z != promise(0, y, 3, 4, 5, upto(y, 4)) && z != reserved(0, x, 2, 3) {
				t.Error(z)
			}
		}
	}
}

// P17.2: of no such thread this configuration alone, whatever it owns.
func TestReachOfNoSuchThread(t *testing.T) {
	s := one(t, "store(x, 1, rlx);", reserved(2, y, 3, 4), promise(3, x, 3, 4, 1, upto(x, 4)), reserved(nobody, x, 5, 6)).knowing(tview.Views{Acq: upto(x, 4)})
	alone := func(s scene, i int) {
		t.Helper()
		if l := s.reach(i, all); len(l) != 1 || !alike(l[0], s.c) {
			t.Error(i, l)
		}
	}
	for _, i := range []int{-1, -2, 2, 3, api.MaxThreads, math.MaxInt, math.MinInt} {
		alone(s, i)
	}
	more, fewer, bare := s, s, s
	more.c.T = append(more.c.T[:2:2], more.c.T[0]) // the program has it not
	alone(more, 2)
	fewer.c.T = s.c.T[:1] // the configuration has it not
	alone(fewer, 1)
	bare.p.Threads = nil
	alone(bare, 0)
	alone(scene{t, unroll.Program{}, config.Config{}}, 0)
}

// P17.2, R3: what do does while it is told changes nothing of what it is told later: to the configuration handed in, or by a call of its own.
func TestReachWhileToldOf(t *testing.T) {
	s := one(t, "r0 = load(x, rlx); store(y, r0, rlx);", message(x, 3, 4, 5, view.View{}), reserved(0, y, 2, 3))
	want := s.reach(0, all)
	c, _ := roomy(s.c)
	var got []config.Config
	certify.Reach(s.p, c, 0, func(at config.Config) bool {
		got = append(got, at)
		spoil(c)
		certify.Reach(s.p, at, 0, func(config.Config) bool { return len(got)%2 == 0 })
		certify.Certify(s.p, at, 0)
		return true
	})
	if !slices.EqualFunc(got, want, alike) {
		t.Error(len(got), len(want))
	}
}

// P17.2, R1: where nobody is told, nothing is.
func TestReachTellsNobody(t *testing.T) {
	s := one(t, "store(x, 1, rlx);")
	for _, i := range []int{-1, 0, 1, 2} {
		certify.Reach(s.p, s.c, i, nil)
	}
	certify.Reach(unroll.Program{}, config.Config{}, 0, nil)
}

// P17.2: from where certifying starts a thread comes to all that it could write: many times behind all, for as long as its code is.
func TestReachFromStart(t *testing.T) {
	s := one(t, "store(x, 1, rlx); store(x, 2, rlx); store(x, 3, rlx);", promise(1, x, 3, 4, 5, view.View{}), reserved(0, y, 0, 1))
	s.c, _ = certify.Start(s.c)
	var last [][]memory.Item
	for _, c := range s.reach(0, all) {
		if l := c.M.List(x); len(l) == 7 && len(c.M.Owned(0)) == 1 {
			last = append(last, l[4:])
		}
	}
	if len(last) != 8 { // each time right behind what is there, or one time later
		t.Error(last)
	}
	for _, l := range last {
		at := 141 // the promise ends at 140, and what is reserved behind it one time later
		for n, z := range l {
			if from := z.S.From(); from != at && from != at+1 || z.S.To() != from+1 || z.N != uint64(n+1) {
				t.Error(l)
			}
			at = z.S.To()
		}
	}
}
