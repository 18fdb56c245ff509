package places_test

import (
	"math/rand"
	"slices"
	"testing"

	"troth/api"
	"troth/config"
	"troth/memory"
	"troth/places"
	"troth/span"
	"troth/tview"
	"troth/view"
)

// wanted are the places of a location, told anew from its items, in no order of theirs: what a span behind an item would be, if it has room and is none of those ahead of it.
func wanted(l []memory.Item) (places []span.Span) {
	tos := ends(l)
	slices.Sort(tos)
	for _, a := range tos {
		b, is := span.MaxTime, false // up to where there is room
		for _, x := range l {
			if from := int(real(x.S)); x.S != 0 && from >= a && (!is || from < b) {
				b, is = from, true
			}
		}
		could := []span.Span{in(a, b), in(a, a+1), in(a+1, b), in(a+1, a+2)}
		if !is {
			could = []span.Span{in(a, a+1), in(a+1, a+2)}
		}
		var gap []span.Span
		for _, s := range could {
			if real(s) < imag(s) && imag(s) <= float64(b) && !slices.Contains(gap, s) {
				gap = append(gap, s)
			}
		}
		places = append(places, gap...)
	}
	return places
}

// some is an item of a span: a message, a promise or a reservation, of this owner or that, as a number says.
func some(loc, from, to, kind int) memory.Item {
	x := memory.Item{Loc: loc, S: in(from, to), Res: kind%2 == 1, Owner: kind/2%5 - 1}
	if !x.Res {
		x.N, x.V = uint64(kind+1), view.At(kind%api.MaxLocations, to, kind%3 == 0)
	}
	return x
}

// kinds is how many kinds of items there are for some.
const kinds = 10

// rows tells all rows of items from one time up to another one: each time is free, or begins an item, or goes on with the one ahead of it.
func rows(early, late, kind int, tell func(l []memory.Item)) {
	var put func(l []memory.Item, at int)
	put = func(l []memory.Item, at int) {
		if at == late {
			tell(l)
			return
		}
		put(l, at+1)
		put(append(slices.Clone(l), some(0, at, at+1, kind+3*len(l))), at+1)
		if n := len(l); n > 0 && int(imag(l[n-1].S)) == at {
			longer := slices.Clone(l)
			longer[n-1] = some(0, int(real(l[n-1].S)), at+1, kind+3*(n-1))
			put(longer, at+1)
		}
	}
	put(nil, early)
}

// holding is a memory of one location with items.
func holding(t *testing.T, l []memory.Item) memory.Memory {
	t.Helper()
	m := made(t, "")
	for _, x := range l {
		var err api.Errno
		if m, err = m.Add(x); err != api.OK {
			t.Fatal(x, err)
		}
	}
	return m
}

// P15.1, P15.2, P15.3: all rows of items, of all kinds, in a short time, an early one and the latest one.
func TestEveryRow(t *testing.T) {
	const long = 8
	seen := 0
	for kind := range kinds {
		for _, early := range []int{0, span.MaxTime - long, span.MaxTime - long - 1, span.MaxTime - long - 2} {
			if early != 0 && kind > 1 {
				continue
			}
			rows(early, early+long, kind, func(l []memory.Item) {
				m := holding(t, l)
				l = m.List(0)
				want := wanted(l)
				if got := places.All(m, 0); !slices.Equal(got, want) {
					t.Errorf("%v: %v, not %v", l, got, want)
				}
				for _, at := range append([]int{-1, 0, 1}, seq(early, early+long+3)...) {
					var those []span.Span
					if slices.Contains(ends(l), at) {
						those = begun(want, at)
					}
					if got := places.Behind(m, 0, at); !slices.Equal(got, those) {
						t.Errorf("%v %d: %v, not %v", l, at, got, those)
					}
				}
				taken(t, m, 0, kind+seen)
				seen++
			})
		}
	}
	if seen != (kinds+2*3)*1597 { // every other Fibonacci number: 1, 2, 5, 13, 34, 89, 233, 610, 1597
		t.Error(seen)
	}
}

// seq are the numbers from one on, up to another one.
func seq(from, to int) (l []int) {
	for i := from; i <= to; i++ {
		l = append(l, i)
	}
	return l
}

// taken sees to it that each place of a location can be taken, by any item, and that no two are the same.
func taken(t *testing.T, m memory.Memory, loc, kind int) {
	t.Helper()
	l := places.All(m, loc)
	for i, s := range l {
		x := some(loc, int(real(s)), int(imag(s)), kind+i)
		if _, err := m.Add(x); err != api.OK {
			t.Errorf("%v: %v: %v", m.List(loc), x, err)
		}
		if slices.Contains(l[:i], s) {
			t.Errorf("%v: %v twice", m.List(loc), s)
		}
	}
	for _, at := range ends(m.List(loc)) {
		for _, s := range places.Behind(m, loc, at) {
			if !slices.Contains(l, s) {
				t.Errorf("%v: %v is behind %d, but no place", m.List(loc), s, at)
			}
		}
	}
}

// chance makes memories by chance: so many locations, with times up to late, and items that hold so long at the most.
type chance struct {
	*rand.Rand
	locs, late, long int
}

// shape is one of a row of kinds of chance.
func shape(seed int64) chance {
	shapes := []struct{ late, long int }{{4, 2}, {9, 2}, {9, 5}, {14, 3}, {20, 12}}
	s := shapes[seed%int64(len(shapes))]
	return chance{rand.New(rand.NewSource(seed)), 1 + int(seed)/len(shapes)%api.MaxLocations, s.late, s.long}
}

// known is a view of times at which items end, that may be.
func (c chance) known(m memory.Memory) (v view.View) {
	for loc := range m.Locs() {
		if c.Intn(2) == 0 {
			tos := ends(m.List(loc))
			v.Rlx[loc] = tos[c.Intn(len(tos))]
			if c.Intn(2) == 0 {
				v.Pln[loc] = v.Rlx[loc]
			}
		}
	}
	return v
}

// item is one that may come to be there, but that it may be in the way of others: few numbers, so that some are alike.
func (c chance) item(m memory.Memory, loc, from, to int) memory.Item {
	x := memory.Item{Loc: loc, S: in(from, to), Res: c.Intn(3) == 0, Owner: c.Intn(5) - 1}
	if !x.Res {
		x.N = uint64(c.Intn(3))
		x.V = c.known(m)
		if c.Intn(2) == 0 {
			x.V = x.V.Join(view.At(loc, to, c.Intn(2) == 0)) // as a write's does, it tells of its own end
		}
	}
	return x
}

// config is a configuration whose memory has items of all kinds; a thread knows some of their ends, and so does S.
func (c chance) config(t *testing.T) config.Config {
	t.Helper()
	m := made(t, slices.Repeat([]string{""}, c.locs)...)
	for range c.Intn(4 + 3*c.locs) {
		loc, to := c.Intn(c.locs), 1+c.Intn(c.late)
		m, _ = m.Add(c.item(m, loc, max(0, to-1-c.Intn(c.long)), to)) // some are not apart from the others
	}
	x := config.Config{M: m, T: []config.Thread{{V: tview.Views{Cur: c.known(m), Acq: c.known(m)}}}}
	x.S = c.known(m).Rlx
	return x
}

// moved is an item at another span, in memory whose times are n times as great: what its view tells of its own end it tells of the new one.
func moved(x memory.Item, s span.Span, n int) memory.Item {
	own := int(imag(x.S))
	x.V = x.V.Map(func(loc, at int) int {
		if loc == x.Loc && at == own {
			return int(imag(s))
		}
		return n * at
	})
	x.S = s
	return x
}

// like tells whether something at a location is like an item but for its span.
func like(l []memory.Item, x memory.Item) bool {
	return slices.ContainsFunc(l, func(y memory.Item) bool { return moved(y, x.S, 1) == x })
}

// with is the key of a configuration, told by ranks, that has one item more, and whether it can have it.
func with(c config.Config, x memory.Item) (string, bool) {
	var err api.Errno
	if c.M, err = c.M.Add(x); err != api.OK {
		return "", false
	}
	return c.Ranks().Key(), true
}

// keys are how many spans there are by which an item, added, is told so by ranks. Where its view may not be (its own end would come ahead of what it knows), it can't be added.
func keys(t *testing.T, c config.Config, x memory.Item, n int, l []span.Span) map[string]int {
	t.Helper()
	found := map[string]int{}
	for _, s := range l {
		y := moved(x, s, n)
		key, is := with(c, y)
		if is {
			found[key]++
		}
		if is != y.V.May() {
			t.Errorf("%v: %v: %v", c.M.List(x.Loc), y, is)
		}
	}
	return found
}

// P15.3: of memories whose times are 3 times as great as another one's: what can be added there is told by ranks like what is added at one of the places here, at just one, where nothing at that location is like it but for its span.
func TestPlacesAreAllThereIs(t *testing.T) {
	added, alike, more := 0, 0, 0
	for seed := range int64(900) {
		k := shape(seed)
		c := k.config(t)
		wide, is := c.Spread(3)
		if !is {
			t.Fatal(seed)
		}
		for loc := range k.locs {
			l := c.M.List(loc)
			here := places.All(wide.M, loc)
			taken(t, wide.M, loc, int(seed))
			last := slices.Max(ends(l))
			x := k.item(c.M, loc, last+7, last+8) // its times of other items are these, wherever it is put
			if !x.Res && k.Intn(2) == 0 {
				x.N = 1000 // nothing is like it
			}
			found := keys(t, wide, x, 3, here)
			single := !like(l, x)
			for to := 1; to <= last+4; to++ {
				for from := range to {
					y := moved(x, in(from, to), 1)
					key, is := with(c, y)
					if !is {
						continue
					}
					added++
					n := found[key]
					if n < 1 || single && n != 1 {
						t.Fatalf("%d: %v: %v is like what is added at %d places of %v", seed, l, y, n, here)
					}
					if !single {
						alike++
					}
					if n > 1 {
						more++
					}
				}
			}
		}
	}
	if added < 20000 || alike < 1000 || more < 50 {
		t.Error(added, alike, more)
	}
}

// P15.3: what an update can add, behind an item, is told by ranks like what is added at one of the places behind it, and at just one.
func TestPlacesBehindAreAllThereIs(t *testing.T) {
	added, none := 0, 0
	for seed := range int64(900) {
		k := shape(seed)
		c := k.config(t)
		wide, _ := c.Spread(3)
		for loc := range k.locs {
			l := c.M.List(loc)
			tos := ends(l)
			last := slices.Max(tos)
			x := memory.Item{Loc: loc, S: in(last+7, last+8), N: 1000, V: k.known(c.M).Join(view.At(loc, last+8, true)), Owner: k.Intn(5) - 1}
			for from := range last + 4 {
				here := places.Behind(wide.M, loc, 3*from)
				if !slices.Contains(tos, from) {
					if len(here) != 0 {
						t.Fatal(seed, l, from, here)
					}
					continue
				}
				found := keys(t, wide, x, 3, here)
				fits := false
				for to := from + 1; to <= last+4; to++ {
					y := moved(x, in(from, to), 1)
					key, is := with(c, y)
					if !is {
						continue
					}
					fits = true
					added++
					if n := found[key]; n != 1 {
						t.Fatalf("%d: %v: %v is like what is added at %d places of %v", seed, l, y, n, here)
					}
				}
				if fits != (len(here) > 0) {
					t.Fatal(seed, l, from, here)
				}
				if !fits {
					none++
				}
			}
		}
	}
	if added < 5000 || none < 500 {
		t.Error(added, none)
	}
}

// P15.3: no two places are alike, whatever is there, for what nothing is like; what is like an item but for its span may be told alike at two of them.
func TestNoTwoPlacesAreAlike(t *testing.T) {
	c := config.Config{M: made(t, "3-6p1")}
	x := memory.Item{N: 6 << 3, V: view.At(0, 6, false), Owner: 1, S: 3 + 6i}
	for number, want := range map[uint64]int{x.N: 4, 9: 6} {
		x.N = number
		if found := keys(t, c, x, 1, places.All(c.M, 0)); len(found) != want {
			t.Error(number, found)
		}
	}
	for seed := range int64(900) {
		k := shape(seed)
		c := k.config(t)
		for loc := range k.locs {
			x := memory.Item{Loc: loc, S: 99 + 100i, N: 1000, V: k.known(c.M), Owner: k.Intn(5) - 1}
			l := places.All(c.M, loc)
			if found := keys(t, c, x, 1, l); len(found) != len(l) {
				t.Fatal(seed, c.M.List(loc), l)
			}
		}
	}
}

// P15.1, P15.2: memories by chance, of several locations, held against what is told of them item by item.
func TestByChance(t *testing.T) {
	r := rand.New(rand.NewSource(15))
	for range 4000 {
		k := chance{r, 1 + r.Intn(api.MaxLocations), 3 + r.Intn(120), 1 + r.Intn(9)}
		m := k.config(t).M
		for range r.Intn(60) {
			loc, to := r.Intn(k.locs), 1+r.Intn(k.late)
			switch r.Intn(5) {
			case 0:
				m, _ = m.Cancel(loc, to, r.Intn(api.MaxThreads))
			case 1:
				m, _ = m.Fulfil(loc, to, r.Intn(api.MaxThreads))
			default:
				m, _ = m.Add(some(loc, max(0, to-1-r.Intn(k.long)), to, r.Intn(kinds)))
			}
		}
		for loc := range k.locs {
			l := m.List(loc)
			want := wanted(l)
			if got := places.All(m, loc); !slices.Equal(got, want) {
				t.Fatalf("%v: %v, not %v", l, got, want)
			}
			for at := -1; at < k.late+4; at++ {
				var those []span.Span
				if slices.Contains(ends(l), at) {
					those = begun(want, at)
				}
				if got := places.Behind(m, loc, at); !slices.Equal(got, those) {
					t.Fatalf("%v %d: %v, not %v", l, at, got, those)
				}
			}
			if len(l) < api.MaxMessages {
				taken(t, m, loc, 7*len(l))
			}
		}
	}
}
