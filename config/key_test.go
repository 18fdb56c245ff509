package config_test

import (
	"fmt"
	"math"
	"math/rand"
	"slices"
	"testing"

	"troth/api"
	"troth/config"
	"troth/memory"
	"troth/span"
	"troth/thread"
	"troth/tview"
	"troth/view"
)

// apart holds that no two of some configurations have a key in common, but each has one with the same built again.
func apart(t *testing.T, build func() []config.Config) {
	t.Helper()
	keys := map[string]int{}
	all, again := build(), build()
	for i, c := range all {
		if j, is := keys[c.Key()]; is {
			t.Errorf("%v\nand %v: %q", tell(c), tell(all[j]), c.Key())
		}
		keys[c.Key()] = i
		if c.Key() != again[i].Key() {
			t.Errorf("%v: %q, then %q", tell(c), c.Key(), again[i].Key())
		}
	}
}

// rebuilt is base with one more item, changed.
func rebuilt(t *testing.T, change func(x *memory.Item)) config.Config {
	t.Helper()
	c := base(t)
	x := memory.Item{Loc: 1, S: in(20, 24), N: 6, V: view.View{Pln: times{1, 2, 3, 4}, Rlx: times{11, 12, 13, 14}}, Owner: 1}
	change(&x)
	c.M = with(t, c.M, x)
	return c
}

// P14.2: one thing of one item tells configurations apart: where it begins, where it ends, its number, each time of its view, its owner, its kind, its location.
func TestKeyOfItems(t *testing.T) {
	apart(t, func() []config.Config {
		all := []config.Config{base(t), rebuilt(t, func(x *memory.Item) {})}
		for _, s := range []span.Span{in(19, 24), in(21, 24), in(20, 23), in(20, 25), in(21, 25), in(200, 240), in(2, 3), in(0, 2)} {
			all = append(all, rebuilt(t, func(x *memory.Item) { x.S = s }))
		}
		for _, n := range []uint64{0, 1, 5, 7, 60, 66, 1 << 63, math.MaxUint64, math.MaxUint64 - 1, math.MaxInt64} {
			all = append(all, rebuilt(t, func(x *memory.Item) { x.N = n }))
		}
		for loc := range api.MaxLocations {
			for _, more := range []int{1, 2, 5} {
				all = append(all, rebuilt(t, func(x *memory.Item) { x.V.Pln[loc] += more }), rebuilt(t, func(x *memory.Item) { x.V.Rlx[loc] += more }))
				all = append(all, rebuilt(t, func(x *memory.Item) { x.V.Pln[loc] += more; x.V.Rlx[loc] += more }))
			}
			all = append(all, rebuilt(t, func(x *memory.Item) { x.V.Rlx[loc] = math.MaxInt }))
		}
		for _, owner := range []int{nobody, 0, 2, 3} {
			all = append(all, rebuilt(t, func(x *memory.Item) { x.Owner = owner }))
		}
		for owner := nobody; owner < api.MaxThreads; owner++ { // a reservation, and a message that has no more than one
			all = append(all, rebuilt(t, func(x *memory.Item) { x.N, x.V, x.Owner = 0, view.View{}, owner }))
			all = append(all, rebuilt(t, func(x *memory.Item) { x.N, x.V, x.Res, x.Owner = 0, view.View{}, true, owner }))
		}
		for _, loc := range []int{0, 2} {
			all = append(all, rebuilt(t, func(x *memory.Item) { x.Loc = loc }))
		}
		return all
	})
}

// P14.2: one place, one register, one time of a view, or of S, tells configurations apart; so does which thread has it, and how many there are.
func TestKeyOfThreads(t *testing.T) {
	apart(t, func() []config.Config {
		all := []config.Config{base(t)}
		put := func(change func(c *config.Config)) {
			c := base(t)
			change(&c)
			all = append(all, c)
		}
		for i := range 3 {
			for _, at := range []int{-1, 0, 11, 32, math.MinInt, math.MaxInt} {
				put(func(c *config.Config) { c.T[i].S.At = at })
			}
			for reg := range api.Registers {
				for _, n := range []uint64{40, 1 << 63, math.MaxUint64, math.MaxInt64} {
					put(func(c *config.Config) { c.T[i].S.R[reg] = n })
				}
			}
			for spot := range 2 * (2 + api.MaxLocations) * api.MaxLocations {
				for _, more := range []int{1, -1, 1000, -1000, math.MinInt} {
					put(func(c *config.Config) {
						n := 0
						slots(&c.T[i].V, func(loc int, at *int) {
							if n == spot {
								*at += more
							}
							n++
						})
					})
				}
			}
			put(func(c *config.Config) { c.T = slices.Delete(c.T, i, i+1) })
			put(func(c *config.Config) { c.T = append(c.T, c.T[i]) })
			put(func(c *config.Config) { c.T[i] = config.Thread{} })
			put(func(c *config.Config) { c.T[i], c.T[(i+1)%3] = c.T[(i+1)%3], c.T[i] })
		}
		for loc := range api.MaxLocations {
			for _, at := range []int{0, -1, 2, 211, math.MinInt, math.MaxInt} {
				put(func(c *config.Config) { c.S[loc] = at })
			}
		}
		put(func(c *config.Config) { c.T = nil })
		put(func(c *config.Config) { c.T = append(c.T, config.Thread{}) })
		put(func(c *config.Config) { c.T = make([]config.Thread, 3) })
		return all
	})
}

// P14.2: numbers that stand one behind the other are not taken for one another.
func TestKeyOfNeighbours(t *testing.T) {
	apart(t, func() (all []config.Config) {
		for _, r := range []regs{{}, {1, 23}, {12, 3}, {123}, {0, 123}, {1, 2, 3}, {12, 0, 3}, {10, 2, 3}, {1, 0, 23}, {0, 1, 23}, {1, 2, 0, 3}} {
			all = append(all, config.Config{T: []config.Thread{{S: thread.State{R: r}}}})
		}
		for _, s := range []thread.State{{At: 1}, {At: 11}, {At: 2, R: regs{11}}, {At: 21, R: regs{1}}, {At: -2, R: regs{1}}, {At: 211}} {
			all = append(all, config.Config{T: []config.Thread{{S: s}}})
		}
		for _, s := range []times{{1, 23}, {12, 3}, {123}, {0, 123}, {1, 2, 3}, {-1, 23}, {1, -23}, {-123}, {12, -3}} {
			all = append(all, config.Config{S: s})
		}
		for _, v := range []view.View{{Pln: times{1, 1}}, {Pln: times{11}}, {Rlx: times{1, 1}}, {Pln: times{3: 1}, Rlx: times{1}}, {Rlx: times{11}}, {Pln: times{3: 11}}} {
			all = append(all, config.Config{T: []config.Thread{{V: tview.Views{Cur: v}}}}, config.Config{T: []config.Thread{{V: tview.Views{Acq: v}}}})
		}
		for _, texts := range [][]string{{"1-23"}, {"12-3000"}, {"1-2 2-3"}, {"1-3"}, {"1-2", "2-3"}, {"", "1-2 2-3"}, {"1-2 2-3", ""}, {"1-2", ""}, {"", "1-2"}, {"1-2", "1-2"}, {"", ""}, {"", "", ""}, {"", "", "", ""}, {"", "", "1-2"}} {
			all = append(all, config.Config{M: made(t, texts...)})
		}
		return append(all, config.Config{})
	})
}

// P14.2: in what order items came, and whether by a promise that was kept, or past a reservation that is gone, plays no part; nor do lists that are empty, and room behind their ends.
func TestKeyOfTheSame(t *testing.T) {
	c := base(t)
	want, was := c.Key(), tell(c)
	r := rand.New(rand.NewSource(14))
	for range 30 {
		other := config.Config{M: begun(t, 3), T: append(make([]config.Thread, 0, 9), c.T...), S: c.S}
		for _, i := range r.Perm(3) {
			l := c.M.List(i)[1:]
			for _, j := range r.Perm(len(l)) {
				x := l[j]
				if x.Owner == nobody && !x.Res {
					x.Owner = 3
				}
				other.M = with(t, other.M, x)
				gone := memory.Item{Loc: i, S: in(50, 51+j), Res: true, Owner: 1}
				other.M, _ = with(t, other.M, gone).Cancel(i, 51+j, 1)
			}
		}
		if other.Key() == want {
			t.Error("promises are not yet kept")
		}
		for _, x := range other.M.Owned(3) {
			other.M, _ = other.M.Fulfil(x.Loc, x.S.To(), 3)
		}
		if other.Key() != want || !was.is(other) {
			t.Error(other.Key(), want)
		}
	}
	if !was.is(c) {
		t.Error("what was handed in is another one")
	}
	if (config.Config{T: []config.Thread{}}).Key() != (config.Config{}).Key() {
		t.Error("empty lists")
	}
	zero := math.Copysign(0, -1) // a 0 with a sign is a 0
	x, y := memory.Item{S: in(0, 1), Owner: nobody}, memory.Item{S: span.Span(complex(zero, 1)), Owner: nobody}
	if (config.Config{M: with(t, begun(t, 1), x)}).Key() != (config.Config{M: with(t, begun(t, 1), y)}).Key() {
		t.Error("a 0 with a sign")
	}
}

// P14.2: configurations by chance, out of few: keys are the same just if all that they hold is.
func TestKeysByChance(t *testing.T) {
	r := rand.New(rand.NewSource(142))
	texts, keys := map[string]string{}, map[string]string{}
	count := 0
	for range 40000 {
		m := begun(t, 1+r.Intn(2))
		for range r.Intn(3) {
			from := r.Intn(2)
			x := memory.Item{Loc: r.Intn(m.Locs()), S: in(from, from+1), Res: r.Intn(2) == 0, Owner: r.Intn(2) - 1}
			if !x.Res {
				x.N, x.V = uint64(r.Intn(2)), view.At(r.Intn(2), r.Intn(2), r.Intn(2) == 0)
			}
			m, _ = m.Add(x)
		}
		c := config.Config{M: m, T: make([]config.Thread, 1+r.Intn(2))}
		for i := range c.T {
			c.T[i].S.At = r.Intn(2)
			c.T[i].S.R[r.Intn(2)] = uint64(r.Intn(2))
			c.T[i].V.Cur = view.At(r.Intn(2), r.Intn(2), true)
		}
		c.S[r.Intn(2)] = r.Intn(2)
		text, key := fmt.Sprint(tell(c)), c.Key()
		if k, is := keys[text]; is {
			count++
			if k != key {
				t.Fatal(text, k, key)
			}
		}
		if other, is := texts[key]; is && other != text {
			t.Fatal(text, other, key)
		}
		texts[key], keys[text] = text, key
	}
	if count < 5000 || len(keys) < 5000 {
		t.Error(count, len(keys))
	}
}
