package config_test

import (
	"fmt"
	"math"
	"slices"
	"testing"

	"troth/api"
	"troth/config"
	"troth/memory"
	"troth/span"
	"troth/thread"
	"troth/tview"
	"troth/view"
)

// rank is how many ends there are below a time or at it, less 1.
func rank(l []memory.Item, at int) int {
	ends := map[int]bool{}
	for _, x := range l {
		ends[int(real(x.S))], ends[int(imag(x.S))] = true, true
	}
	n := 0
	for end := range ends {
		if end <= at {
			n++
		}
	}
	if n == 0 {
		return 0
	}
	return n - 1
}

// ranked is what a configuration holds, told by ranks.
func ranked(c config.Config) told {
	return tell(c).timed(func(loc, at int) int { return rank(c.M.List(loc), at) })
}

// P14.1: the chapter's example.
func TestExample(t *testing.T) {
	m, _ := memory.Begin([]uint64{7})
	m, _ = m.Add(memory.Item{S: in(5, 7), N: 1, Owner: nobody})
	got := config.Config{M: m}.Ranks()
	if want := []memory.Item{{N: 7, Owner: nobody}, {S: in(1, 2), N: 1, Owner: nobody}}; !slices.Equal(got.M.List(0), want) {
		t.Error(got.M.List(0))
	}
}

// shapes are what may be at a location, and the same told by ranks.
var shapes = []struct{ text, want string }{
	// the first item alone
	{"", ""},
	// items that touch
	{"0-1", "0-1"},
	{"0-9", "0-1"},
	{"0-1 1-2 2-3", "0-1 1-2 2-3"},
	{"0-4 4-5 5-70", "0-1 1-2 2-3"},
	// room between them
	{"1-2", "1-2"},
	{"5-7", "1-2"},
	{"0-2 5-6", "0-1 2-3"},
	{"2-3 5-6 8-9", "1-2 3-4 5-6"},
	// both
	{"2-3 3-4 9-12", "1-2 2-3 4-5"},
	{"0-10 20-30 30-31 41-42 42-60", "0-1 2-3 3-4 5-6 6-7"},
	// promises and reservations among them count as any other item
	{"3-4p0", "1-2p0"},
	{"3-4r1", "1-2r1"},
	{"3-4r", "1-2r"},
	{"0-5p3 5-6r0 6-8 9-20r 20-21p3", "0-1p3 1-2r0 2-3 4-5r 5-6p3"},
	{"4-6r2 8-10p1 12-14r", "1-2r2 3-4p1 5-6r"},
	// late
	{"1048575-1048576", "1-2"},
	{"0-1048575 1048575-1048576", "0-1 1-2"},
	{"0-1048576", "0-1"},
}

// P14.1: spans told by ranks, at one location and at several; numbers, kinds and owners stay.
func TestRanksOfSpans(t *testing.T) {
	for i := range shapes {
		for locs := 1; locs <= api.MaxLocations; locs++ {
			var texts, wants []string
			for loc := range locs {
				c := shapes[(i+loc*7)%len(shapes)]
				texts, wants = append(texts, c.text), append(wants, c.want)
			}
			got := config.Config{M: made(t, texts...)}.Ranks()
			if !alike(got, config.Config{M: made(t, wants...)}) || got.M.Locs() != locs {
				t.Errorf("%q: %v, not %q", texts, tell(got).items, wants)
			}
		}
	}
}

// ends are the ends of rows, location by location; the last one has none: it is not there.
var ends = []struct {
	text string
	at   []int
}{
	{"3-5 5-9", []int{0, 3, 5, 9}}, {"0-2r", []int{0, 2}}, {"1-4p0 20-21", []int{0, 1, 4, 20, 21}}, {"", nil},
}

// P14.1: each time of S, of threads' views and of messages' views, just below, at and just above each end, by itself: its rank stands there, and nothing else is changed.
func TestRanksOfTimes(t *testing.T) {
	for by := range 3 {
		texts := make([]string, 3)
		for loc := range texts {
			texts[loc] = ends[(loc+by)%3].text
		}
		for loc := range api.MaxLocations {
			of := ends[3]
			if loc < 3 {
				of = ends[(loc+by)%3]
			}
			for _, at := range []int{math.MinInt, -1, 0, 1, 2, 3, 4, 5, 6, 8, 9, 10, 19, 20, 21, 22, span.MaxTime, span.MaxTime + 1, math.MaxInt} {
				want := 0
				for i, end := range of.at {
					if end <= at {
						want = i
					}
				}
				oneTime(t, made(t, texts...), loc, at, func(c config.Config) (config.Config, bool) { return c.Ranks(), true }, want)
			}
		}
	}
}

// spots are all places at which a configuration of two threads has a time of a location, but for its messages: each puts one there.
func spots(loc int) (l []func(c *config.Config, at int)) {
	l = append(l, func(c *config.Config, at int) { c.S[loc] = at })
	for i := range 2 {
		for spot := range 2 * (2 + api.MaxLocations) {
			l = append(l, func(c *config.Config, at int) {
				n := 0
				slots(&c.T[i].V, func(l int, p *int) {
					if l == loc {
						if n == spot {
							*p = at
						}
						n++
					}
				})
			})
		}
	}
	return l
}

// bare is a configuration of a memory, with two threads that know nothing.
func bare(m memory.Memory) config.Config { return config.Config{M: m, T: make([]config.Thread, 2)} }

// oneTime puts one time to each place of a configuration at which a time of that location may stand, asks a call, and holds what is there against what must be there.
func oneTime(t *testing.T, m memory.Memory, loc, at int, call func(c config.Config) (config.Config, bool), want int) {
	t.Helper()
	told, _ := call(bare(m))
	for i, put := range spots(loc) {
		c, must := bare(m), bare(told.M)
		put(&c, at)
		put(&must, want)
		if got, is := call(c); !is || !alike(got, must) {
			t.Fatalf("%d at %d, %d: %v, not %v", at, loc, i, got, must)
		}
	}
	for own := range m.Locs() {
		for _, pln := range []bool{false, true} {
			if at < 0 || own == loc && at >= 30 { // no message knows of such a time; or the message itself is among the ends
				continue
			}
			x := memory.Item{Loc: own, S: in(30, 31), N: 5, Owner: nobody}
			told, _ := call(bare(with(t, m, x)))
			must := tell(told)
			last := &must.items[own][len(must.items[own])-1]
			x.V, last.V = view.At(loc, at, pln), view.At(loc, want, pln)
			if got, is := call(bare(with(t, m, x))); !is || !must.is(got) {
				t.Fatalf("%d at %d, message's view: %v, not %v", at, loc, tell(got), must)
			}
		}
	}
}

// P14.1: a message's view may know of the message itself, and of what is behind it.
func TestRanksOfOwnView(t *testing.T) {
	m := with(t, begun(t, 2),
		memory.Item{S: in(4, 6), N: 1, V: view.At(0, 6, true).Join(view.At(1, 9, false)), Owner: 1},
		memory.Item{Loc: 1, S: in(7, 9), N: 2, V: view.View{Pln: times{5}, Rlx: times{7, 8}}, Owner: nobody},
		memory.Item{S: in(6, 8), N: 3, V: view.Flat(times{8, 1000, 7, 7}), Owner: nobody})
	want := with(t, begun(t, 2),
		memory.Item{S: in(1, 2), N: 1, V: view.At(0, 2, true).Join(view.At(1, 2, false)), Owner: 1},
		memory.Item{Loc: 1, S: in(1, 2), N: 2, V: view.View{Pln: times{1}, Rlx: times{2, 1}}, Owner: nobody},
		memory.Item{S: in(2, 3), N: 3, V: view.Flat(times{3, 2, 0, 0}), Owner: nobody})
	if got := (config.Config{M: m}).Ranks(); !alike(got, config.Config{M: want}) {
		t.Error(tell(got))
	}
}

// P14.1: all rows of up to three spans with times up to 6, with all times in S, told by ranks.
func TestRanksOfAllShortRows(t *testing.T) {
	var all []span.Span
	for to := 1; to <= 6; to++ {
		for from := range to {
			all = append(all, in(from, to))
		}
	}
	rows := 0
	var grow func(m memory.Memory, left int)
	grow = func(m memory.Memory, left int) {
		rows++
		for at := -1; at <= 8; at++ {
			c := config.Config{M: m, T: []config.Thread{{V: tview.Views{Cur: view.At(0, at, true)}}}, S: times{at, at, at, at}}
			if got := c.Ranks(); !ranked(c).is(got) {
				t.Fatal(tell(c), tell(got))
			}
		}
		for i, s := range all {
			if last, _ := m.Last(0); left > 0 && real(s) >= imag(last.S) {
				grow(with(t, m, memory.Item{S: s, N: uint64(i), V: view.At(0, i%8, i%2 == 0), Owner: i%5 - 1}), left-1)
			}
		}
	}
	grow(begun(t, 1), 3)
	if rows < 50 {
		t.Error(rows)
	}
}

// P14.1: as many items as a location may have.
func TestRanksOfTheMost(t *testing.T) {
	m, want := begun(t, api.MaxLocations), begun(t, api.MaxLocations)
	for loc := range api.MaxLocations {
		at, count := 0, 0
		for i := range api.MaxMessages - 1 {
			x := memory.Item{Loc: loc, N: uint64(i), Owner: nobody}
			gap := (i + loc) % 3
			x.S, x.V = in(at+gap, at+gap+1+loc), view.At(loc, at+gap+1+loc, true)
			m = with(t, m, x)
			at += gap + 1 + loc
			count += min(gap, 1)
			x.S, x.V = in(count, count+1), view.At(loc, count+1, true)
			want = with(t, want, x)
			count++
		}
	}
	if got := (config.Config{M: m}).Ranks(); !alike(got, config.Config{M: want}) {
		t.Error(tell(got))
	}
}

// P14.1: registers and places of threads are not times; a program without locations has S and views all the same.
func TestRanksOfThreads(t *testing.T) {
	c := base(t)
	got := c.Ranks()
	if !ranked(c).is(got) || alike(got, c) {
		t.Error(got)
	}
	c.M = memory.Memory{}
	got = c.Ranks()
	want := config.Config{}
	for _, x := range c.T {
		want.T = append(want.T, config.Thread{S: x.S})
	}
	if !alike(got, want) {
		t.Error(got)
	}
}

// P14.1: each time is so many times as great.
func TestSpread(t *testing.T) {
	for _, n := range []int{1, 2, 3, 7, 70, 1000, span.MaxTime / 173} {
		c := base(t)
		want := tell(c).timed(func(loc, at int) int { return n * at })
		if got, is := c.Spread(n); !is || !want.is(got) || got.M.Locs() != 3 {
			t.Error(n, is, tell(got))
		}
	}
	tooFar(t, "base", base(t), span.MaxTime/173+1) // 173 is its latest time
	m := made(t, "0-1 3-4p0 4-9r2", "5-6r")
	for n, want := range map[int]memory.Memory{1: m, 2: made(t, "0-2 6-8p0 8-18r2", "10-12r"), 10: made(t, "0-10 30-40p0 40-90r2", "50-60r")} {
		if got, is := (config.Config{M: m}).Spread(n); !is || !alike(got, config.Config{M: want}) {
			t.Error(n, is, tell(got))
		}
	}
	for _, n := range []int{1, 3, span.MaxTime, span.MaxTime + 1, math.MaxInt} { // where all times are 0, none is ever too late
		c := config.Config{M: begun(t, 2), T: []config.Thread{{S: thread.State{At: 5, R: regs{1 << 63}}}}}
		if got, is := c.Spread(n); !is || !alike(got, c) {
			t.Error(n, is, got)
		}
	}
}

// P14.1: each time by itself, wherever it stands, so far that it is just MaxTime, or just below, and one more.
func TestSpreadToTheLast(t *testing.T) {
	m := made(t, "0-1", "")
	for _, c := range []struct{ n, at int }{
		{1, span.MaxTime}, {1, span.MaxTime - 1}, {2, span.MaxTime / 2}, {3, span.MaxTime / 3}, {5, span.MaxTime / 5}, {70, span.MaxTime / 70},
		{1024, 1024}, {span.MaxTime / 2, 2}, {span.MaxTime/2 - 1, 2}, {span.MaxTime, 1}, {span.MaxTime - 1, 1}, {span.MaxTime/31 - 5, 31},
	} {
		for loc := range api.MaxLocations {
			if c.n < span.MaxTime/31 { // the messages of oneTime fit
				oneTime(t, m, loc, c.at, func(x config.Config) (config.Config, bool) { return x.Spread(c.n) }, c.n*c.at)
			}
			for what, x := range oneEach(t, loc, c.at) {
				if got, is := x.Spread(c.n); !is || !tell(x).timed(func(loc, at int) int { return c.n * at }).is(got) {
					t.Fatal(what, c, is, tell(got))
				}
				tooFar(t, what, x, c.n*(span.MaxTime/(c.n*c.at)+1))
			}
			for what, x := range oneEach(t, loc, c.at+1) {
				if c.n*(c.at+1) > span.MaxTime {
					tooFar(t, what, x, c.n)
				}
			}
		}
	}
}

// oneEach are configurations with one time that is not 0, or of a message or a reservation with just so late an end.
func oneEach(t *testing.T, loc, at int) map[string]config.Config {
	t.Helper()
	all := map[string]config.Config{}
	for i, put := range spots(loc) {
		c := bare(begun(t, 2))
		put(&c, at)
		all[fmt.Sprint("spot ", i)] = c
	}
	for own := range 2 {
		for _, pln := range []bool{false, true} {
			x := memory.Item{Loc: own, S: in(0, 1), V: view.At(loc, at, pln), Owner: nobody}
			all[fmt.Sprint("view ", own, pln)] = bare(with(t, begun(t, 2), x))
		}
		if at > span.MaxTime {
			continue
		}
		for from := range min(at, 3) {
			for _, x := range []memory.Item{{Loc: own, S: in(from, at), N: 1, Owner: nobody}, {Loc: own, S: in(at-1-from, at), N: 1, Owner: 2}, {Loc: own, S: in(from, at), Res: true, Owner: 0}} {
				all[fmt.Sprint("item ", own, x.S, x.Owner)] = bare(with(t, begun(t, 2), x))
			}
		}
	}
	return all
}

// tooFar holds that a configuration can't be spread so far.
func tooFar(t *testing.T, what any, c config.Config, n int) {
	t.Helper()
	was := tell(c)
	if got, is := c.Spread(n); is || !was.is(got) || got.M.Locs() != c.M.Locs() || !was.is(c) {
		t.Fatal(what, n, is, tell(got))
	}
}

// P14.1: what is not spread: by 0 and below, or so far that a product is more than a number holds.
func TestSpreadByWrongNumbers(t *testing.T) {
	none := config.Config{M: begun(t, 1), T: make([]config.Thread, 1)}
	for _, n := range []int{0, -1, -2, -70, math.MinInt, math.MinInt + 1} {
		tooFar(t, "none", none, n)
		tooFar(t, "base", base(t), n)
		tooFar(t, "nothing", config.Config{}, n)
	}
	for _, c := range []struct{ at, n int }{
		{1, math.MaxInt}, {2, math.MaxInt}, {3, math.MaxInt}, {1 << 32, 1 << 32}, {1 << 40, 1 << 30}, {4, 1 << 62}, {8, 1 << 61}, {1 << 62, 4}, {1 << 63 / 3, 3}, {math.MaxInt, 1}, {math.MaxInt, 2}, {math.MaxInt, math.MaxInt},
		{math.MinInt, 2}, {math.MinInt / 2, 3}, {-2, math.MaxInt}, {-1 << 40, 1 << 40}, {math.MinInt, math.MaxInt}, {math.MinInt/2 - 1, 2},
	} {
		for loc := range api.MaxLocations {
			x := none
			x.S[loc] = c.at
			tooFar(t, c, x, c.n)
			x = none.With(0, config.Thread{})
			x.T[0].V.Acq.Rlx[loc] = c.at
			tooFar(t, c, x, c.n)
			if c.at > 0 {
				tooFar(t, c, config.Config{M: with(t, begun(t, 1), memory.Item{S: in(0, 1), V: view.At(loc, c.at, true), Owner: nobody})}, c.n)
			}
		}
	}
	for _, c := range []struct{ at, n int }{{-1, 1}, {-1, 3}, {-5, 7}, {math.MinInt, 1}, {math.MinInt / 2, 2}, {-1, math.MaxInt}, {math.MinInt / 8, 8}} {
		x := none
		x.S[2] = c.at
		if got, is := x.Spread(c.n); !is || got.S != (times{2: c.at * c.n}) {
			t.Error(c, is, got.S)
		}
	}
}
