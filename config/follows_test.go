package config_test

import (
	"math/rand"
	"testing"

	"troth/api"
	"troth/config"
	"troth/memory"
	"troth/span"
	"troth/thread"
	"troth/unroll"
	"troth/view"
)

// chance makes configurations by chance: so many locations, with times up to late, and items that hold so long at the most.
type chance struct {
	*rand.Rand
	locs, late, long int
}

// view is one that may be; most of its times are of no item.
func (c chance) view() (v view.View) {
	for loc := range api.MaxLocations {
		if c.Intn(2) == 0 {
			v.Rlx[loc] = c.Intn(c.late + 2)
			v.Pln[loc] = c.Intn(v.Rlx[loc] + 1)
		}
	}
	return v
}

// config is one of items of all kinds; the times of its threads, and of S, may be any, some below 0.
func (c chance) config(t *testing.T) config.Config {
	x := config.Config{M: begun(t, c.locs)}
	for range c.Intn(12) {
		if c.locs == 0 {
			break
		}
		to := 1 + c.Intn(c.late)
		y := memory.Item{Loc: c.Intn(c.locs), S: in(max(0, to-1-c.Intn(c.long)), to), Res: c.Intn(3) == 0, Owner: c.Intn(5) - 1}
		if !y.Res {
			y.N, y.V = c.Uint64(), c.view()
		}
		x.M, _ = x.M.Add(y) // some are not apart from the others
	}
	for range c.Intn(5) {
		y := config.Thread{S: thread.State{At: c.Intn(5) - 1, R: regs{c.Uint64(), uint64(c.Intn(3)), 7: 1}}}
		slots(&y.V, func(loc int, at *int) { *at = c.Intn(c.late+5) - c.Intn(3)*c.Intn(2) })
		x.T = append(x.T, y)
	}
	for loc := range x.S {
		x.S[loc] = c.Intn(c.late+5) - c.Intn(3)*c.Intn(2)
	}
	return x
}

// kinds are configurations by chance of some shapes.
func kinds(seed int64) chance {
	shapes := []struct{ late, long int }{{6, 2}, {12, 4}, {40, 3}, {40, 30}, {5000, 700}}
	shape := shapes[seed%int64(len(shapes))]
	return chance{rand.New(rand.NewSource(seed)), int(seed) / len(shapes) % (api.MaxLocations + 1), shape.late, shape.long}
}

// P14.1, P14.4: told by ranks as each time's rank is; told twice it is told once; spread first, it is the same; what was handed in stays as it was.
func TestRanksByChance(t *testing.T) {
	for seed := range int64(4000) {
		c := kinds(seed).config(t)
		was, want := tell(c), ranked(c)
		got := c.Ranks()
		if !want.is(got) || got.M.Locs() != c.M.Locs() {
			t.Fatal(seed, was, tell(got))
		}
		if !want.is(got.Ranks()) || !want.is(c.Ranks()) {
			t.Fatal(seed, was, "told again")
		}
		if got.Ranks().Key() != got.Key() {
			t.Fatal(seed, got.Key())
		}
		for _, n := range []int{1, 2, 3, 70, 200} {
			wide, is := c.Spread(n)
			if !is || !was.timed(func(loc, at int) int { return n * at }).is(wide) {
				t.Fatal(seed, n, is, tell(wide))
			}
			if !want.is(wide.Ranks()) {
				t.Fatal(seed, n, was, tell(wide.Ranks()))
			}
			if again, is := got.Spread(n); !is || !want.is(again.Ranks()) {
				t.Fatal(seed, n, "spread, told by ranks")
			}
		}
		if !was.is(c) {
			t.Fatal(seed, "what was handed in is another one")
		}
	}
}

// P14.4: items stay apart, in their order, and touch as they did.
func TestItemsStayAsTheyStand(t *testing.T) {
	touch := 0
	for seed := range int64(3000) {
		c := kinds(seed).config(t)
		wide, _ := c.Spread(3)
		for _, got := range []config.Config{c.Ranks(), wide, wide.Ranks()} {
			for loc := range c.M.Locs() {
				l, m := c.M.List(loc), got.M.List(loc)
				if len(l) != len(m) {
					t.Fatal(l, m)
				}
				for i := range l {
					for j := range l {
						a, b := l[i].S, l[j].S
						if span.Apart(m[i].S, m[j].S) != span.Apart(a, b) || span.Touches(m[i].S, m[j].S) != span.Touches(a, b) || span.Compare(m[i].S, m[j].S) != span.Compare(a, b) {
							t.Fatal(l, m)
						}
						if i != j && span.Touches(a, b) {
							touch++
						}
					}
					x, y := l[i], m[i]
					x.S, x.V, y.S, y.V = 0, view.View{}, 0, view.View{}
					if x != y {
						t.Fatal(x, y)
					}
				}
			}
		}
	}
	if touch < 1000 {
		t.Error(touch)
	}
}

// P14.4: which items a thread knows of stays; so do views that are closed, and how it ends.
func TestOrderStays(t *testing.T) {
	for seed := range int64(2000) {
		k := kinds(seed)
		c := k.config(t)
		r := c.Ranks()
		for loc := range c.M.Locs() {
			for i, x := range c.M.List(loc) {
				y := r.M.List(loc)[i]
				for j, v := range c.T {
					at, to := v.V.Cur.Rlx[loc], int(imag(x.S))
					if at >= 0 && (at >= to) != (r.T[j].V.Cur.Rlx[loc] >= int(imag(y.S))) {
						t.Fatal(at, to, r.T[j].V.Cur.Rlx[loc], y.S)
					}
				}
				if c.M.Closed(x.V) && !r.M.Closed(y.V) {
					t.Fatal(x, y)
				}
			}
		}
		p := unroll.Program{Threads: make([]unroll.Thread, len(c.T))}
		if config.Ends(p, c).Text() != config.Ends(p, r).Text() || config.Terminal(p, c) != config.Terminal(p, r) {
			t.Fatal(seed, config.Ends(p, c).Text(), config.Ends(p, r).Text())
		}
	}
}

// P14.4: what is told at any scale that keeps the order of ends, and where other times stand among them, is told by ranks alike: its key is the same.
func TestScalesByChance(t *testing.T) {
	for seed := range int64(1500) {
		k := kinds(seed)
		c := k.config(t)
		later := make([][]int, api.MaxLocations)
		for loc := range later {
			at := 0
			for range k.late + 10 {
				later[loc] = append(later[loc], at)
				at += 1 + k.Intn(5)
			}
		}
		scaled := func(loc, at int) int {
			if at < 0 {
				return at * 5
			}
			return later[loc][at]
		}
		x := tell(c).timed(scaled)
		d := config.Config{M: begun(t, c.M.Locs()), T: x.threads, S: x.s}
		for _, l := range x.items {
			for _, i := range k.Perm(len(l) - 1) {
				d.M = with(t, d.M, l[i+1])
			}
		}
		if c.Ranks().Key() != d.Ranks().Key() {
			t.Fatal(seed, tell(c), tell(d))
		}
	}
}
