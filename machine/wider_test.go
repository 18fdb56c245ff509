package machine_test

import (
	"math"
	"math/rand"
	"reflect"
	"slices"
	"testing"

	"troth/api"
	"troth/config"
	"troth/machine"
	"troth/memory"
	"troth/span"
	"troth/thread"
	"troth/tview"
	"troth/unroll"
	"troth/view"
)

// wide is a configuration in which there is room. It sees to it that there is one, that what was handed in stays, and that the answer is the caller's own, and the same again.
func wide(t *testing.T, c config.Config) config.Config {
	t.Helper()
	c, list := roomy(c)
	was, threads := tell(c), list()
	first, is := machine.Wider(c)
	held := tell(first)
	all := first.T[:cap(first.T)]
	for n := range all {
		all[n] = config.Thread{S: thread.State{At: 77}}
	}
	again, same := machine.Wider(c)
	if !is || !same || !reflect.DeepEqual(tell(again), held) {
		t.Fatal(is, same, tell(again), held)
	}
	if !reflect.DeepEqual(tell(c), was) || !slices.Equal(list(), threads) {
		t.Fatal("what was handed in is another one", tell(c), was)
	}
	return again
}

// rank is that of a time, counted.
func rank(c config.Config, loc, at int) int {
	ends := map[int]bool{}
	for _, z := range c.M.List(loc) {
		for _, t := range []int{z.S.From(), z.S.To()} {
			if t <= at {
				ends[t] = true
			}
		}
	}
	return max(len(ends)-1, 0)
}

// thrice is what a configuration holds, each time 3 times its rank.
func thrice(c config.Config) told {
	at := func(loc, t int) int { return 3 * rank(c, loc, t) }
	seen := func(v view.View) view.View {
		for loc := range v.Pln {
			v.Pln[loc], v.Rlx[loc] = at(loc, v.Pln[loc]), at(loc, v.Rlx[loc])
		}
		return v
	}
	x := tell(c)
	for loc, l := range x.items {
		for n, z := range l {
			l[n].S, l[n].V = in(at(loc, z.S.From()), at(loc, z.S.To())), seen(z.V)
		}
	}
	for n := range x.threads {
		v := &x.threads[n].V
		v.Cur, v.Acq = seen(v.Cur), seen(v.Acq)
		for loc := range v.Rel {
			v.Rel[loc] = seen(v.Rel[loc])
		}
	}
	for loc := range x.s {
		x.s[loc] = at(loc, x.s[loc])
	}
	return x
}

// P19.1: with gaps: each time is 3 times its rank, in spans, messages' views, threads' views, and S; all else is as it was.
func TestWider(t *testing.T) {
	if machine.Wide != 3 {
		t.Error(machine.Wide)
	}
	s := made(t, "init x = 7; thread { store(x, 1, rlx); } thread { r5 = 6; r0 = load(y, rlx); } exists x + y;",
		message(x, 5, 7, 3), knows(promised(1, x, 20, 30, 4), upto(x, 30), upto(y, 12)), reserved(0, x, 30, 31), reserved(nobody, y, 0, 2), knows(message(y, 11, 12, 5)))
	know := tview.Views{Cur: view.At(x, 7, false), Acq: upto(x, 30).Join(view.At(y, 12, false)), Rel: [api.MaxLocations]view.View{y: view.At(x, 7, false)}}
	s.c = s.c.With(1, config.Thread{S: s.c.T[1].S, V: know})
	s.c.S = times{30, 12}
	got := tell(wide(t, s.c))
	// the ends of x: 0, 5, 7, 20, 30, 31; of y: 0, 2, 11, 12
	want := told{
		items: [][]memory.Item{
			{{N: 7, Owner: nobody}, message(x, 3, 6, 3), knows(promised(1, x, 9, 12, 4), upto(x, 12), upto(y, 9)), reserved(0, x, 12, 15)},
			{{Loc: y, Owner: nobody}, reserved(nobody, y, 0, 3), knows(message(y, 6, 9, 5))},
		},
		threads: []config.Thread{
			{S: s.c.T[0].S},
			{S: thread.State{At: s.c.T[1].S.At, R: regs{5: 6}}, V: tview.Views{
				Cur: view.At(x, 6, false), Acq: upto(x, 12).Join(view.At(y, 9, false)), Rel: [api.MaxLocations]view.View{y: view.At(x, 6, false)}}},
		},
		s: times{12, 9},
	}
	for loc := range want.items {
		want.items[loc][0].Loc = loc
	}
	if !reflect.DeepEqual(got, want) {
		t.Errorf("%v, not %v", got, want)
	}
}

// P19.1: told by ranks already, and at any scale: each time 3 times its rank.
func TestWiderOfRanks(t *testing.T) {
	for _, s := range []scene{
		one(t, ""),
		one(t, "store(x, 1, rlx);", message(x, 0, 1, 1), message(x, 2, 3, 1), promised(0, y, 1, 2, 1)).knowing(rel(x, upto(x, 3))),
		one(t, "fence(sc);", message(x, 0, 1, 1), message(x, 1, 2, 1), reserved(1, y, 0, 1)).knowing(rel(y, upto(x, 1))),
	} {
		if s.c.Key() != s.c.Ranks().Key() {
			t.Fatal("told by other times", tell(s.c))
		}
		got := wide(t, s.c)
		if !reflect.DeepEqual(tell(got), thrice(s.c)) {
			t.Errorf("%v, not %v", tell(got), thrice(s.c))
		}
		for _, n := range []int{2, 3, 70, 100000} {
			far, is := s.c.Spread(n)
			if again := wide(t, far); !is || !reflect.DeepEqual(tell(again), tell(got)) {
				t.Errorf("%d times as great: %v, not %v", n, tell(again), tell(got))
			}
		}
		if again := wide(t, got); !reflect.DeepEqual(tell(again), tell(got)) { // it hangs on ranks alone
			t.Errorf("%v, not %v", tell(again), tell(got))
		}
	}
}

// P19.1: as many items as there may be, a gap ahead of each: no time is too great, how late it may have been.
func TestWiderOfMany(t *testing.T) {
	s := one(t, "")
	for n := range api.MaxMessages - 1 {
		s = s.with(message(x, 20000*n+7, 20000*n+9, 1))
	}
	s = s.with(message(y, span.MaxTime-1, span.MaxTime, 1)).knowing(cur(upto(y, span.MaxTime).Join(upto(x, math.MaxInt))))
	s.c.S = times{math.MaxInt, span.MaxTime + 1, math.MaxInt, 5}
	got := wide(t, s.c)
	last, _ := got.M.Last(x)
	if want := (times{234, 6}); last.S != in(231, 234) || got.S != want || got.T[0].V != cur(view.Flat(want)) || !reflect.DeepEqual(tell(got), thrice(s.c)) {
		t.Error(tell(got))
	}
}

// P19.1: of no locations, no threads, nothing.
func TestWiderOfNothing(t *testing.T) {
	for _, c := range []config.Config{{}, config.Begin(unroll.Program{}), config.Begin(program(t, "thread { } exists 1;", 0)), {S: times{1, 2, 3, 4}}} {
		if got := wide(t, c); !reflect.DeepEqual(tell(got), thrice(c)) {
			t.Error(tell(got), tell(c))
		}
	}
}

// P19.1: of configurations by chance: each time 3 times its rank.
func TestWiderByChance(t *testing.T) {
	r := rand.New(rand.NewSource(1))
	late := 0
	scenes(t, 8000, 8150, func(c chance, p unroll.Program, at config.Config) {
		at.S = times{r.Intn(9), r.Intn(9), r.Intn(9), r.Intn(9)}
		got := wide(t, at)
		if !reflect.DeepEqual(tell(got), thrice(at)) {
			t.Fatalf("%v, not %v", tell(got), thrice(at))
		}
		if got.Key() != at.Key() {
			late++
		}
	})
	if late < 500 {
		t.Error(late)
	}
}
