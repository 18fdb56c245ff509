package config_test

import (
	"fmt"
	"math"
	"slices"
	"strings"
	"testing"

	"troth/api"
	"troth/config"
	"troth/memory"
	"troth/parse"
	"troth/span"
	"troth/thread"
	"troth/tview"
	"troth/unroll"
	"troth/view"
)

// nobody owns what is no thread's.
const nobody = -1

// times are one of each location.
type times = [api.MaxLocations]int

// regs are a thread's registers.
type regs = [api.Registers]uint64

// in is a span that a test knows to be one.
func in(from, to int) span.Span { return span.Span(complex(float64(from), float64(to))) }

// program is that of a text, its loops unrolled so often.
func program(t *testing.T, text string, k int) unroll.Program {
	t.Helper()
	test, at, err := parse.Parse(text)
	if err != api.OK {
		t.Fatal(text, at, err)
	}
	p, err := unroll.Unroll(test, k)
	if err != api.OK {
		t.Fatal(text, err)
	}
	return p
}

// row are the items of a text: where each one begins and ends; then p and a thread of its promise, r and a thread of its reservation, r alone of nobody's. Messages have numbers that count on from 1.
func row(t *testing.T, loc int, text string) (l []memory.Item) {
	t.Helper()
	for i, word := range strings.Fields(text) {
		var from, to int
		kind := strings.TrimLeft(word, "0123456789-")
		if n, _ := fmt.Sscanf(strings.TrimSuffix(word, kind), "%d-%d", &from, &to); n != 2 {
			t.Fatal(text)
		}
		x := memory.Item{Loc: loc, S: in(from, to), Res: strings.HasPrefix(kind, "r"), Owner: nobody}
		if len(kind) > 1 {
			x.Owner = int(kind[1] - '0')
		}
		if !x.Res {
			x.N = uint64(i) + 1
		}
		l = append(l, x)
	}
	return l
}

// begun is a memory at first, of so many locations, with numbers from 100 on.
func begun(t *testing.T, locs int) memory.Memory {
	t.Helper()
	start := make([]uint64, locs)
	for loc := range start {
		start[loc] = uint64(loc) + 100
	}
	m, err := memory.Begin(start)
	if err != api.OK && locs > 0 {
		t.Fatal(locs, err)
	}
	return m
}

// with is a memory with more items.
func with(t *testing.T, m memory.Memory, l ...memory.Item) memory.Memory {
	t.Helper()
	for _, x := range l {
		next, err := m.Add(x)
		if err != api.OK {
			t.Fatal(x, err)
		}
		m = next
	}
	return m
}

// made is a memory of the items of texts, one of each location.
func made(t *testing.T, texts ...string) memory.Memory {
	t.Helper()
	m := begun(t, len(texts))
	for loc, text := range texts {
		m = with(t, m, row(t, loc, text)...)
	}
	return m
}

// told is all that a configuration holds, in lists of a test's own.
type told struct {
	items   [][]memory.Item
	threads []config.Thread
	s       times
}

// tell is what a configuration holds.
func tell(c config.Config) told {
	x := told{threads: slices.Clone(c.T), s: c.S}
	for loc := range c.M.Locs() {
		x.items = append(x.items, c.M.List(loc))
	}
	return x
}

// is tells whether a configuration holds just this.
func (x told) is(c config.Config) bool {
	y := tell(c)
	return slices.EqualFunc(x.items, y.items, slices.Equal) && slices.Equal(x.threads, y.threads) && x.s == y.s
}

// alike tells whether two configurations hold the same.
func alike(a, b config.Config) bool { return tell(a).is(b) }

// slots are where the times of a thread's views stand, each with its location.
func slots(v *tview.Views, do func(loc int, at *int)) {
	l := []*view.View{&v.Cur, &v.Acq}
	for loc := range v.Rel {
		l = append(l, &v.Rel[loc])
	}
	for _, w := range l {
		viewSlots(w, do)
	}
}

// viewSlots are where the times of a view stand.
func viewSlots(v *view.View, do func(loc int, at *int)) {
	for loc := range api.MaxLocations {
		do(loc, &v.Pln[loc])
		do(loc, &v.Rlx[loc])
	}
}

// timed is what a configuration holds, each time as a function tells it.
func (x told) timed(f func(loc, t int) int) told {
	put := func(loc int, at *int) { *at = f(loc, *at) }
	y := told{threads: slices.Clone(x.threads), s: x.s}
	for loc, l := range x.items {
		l = slices.Clone(l)
		for i := range l {
			l[i].S = in(f(loc, int(real(l[i].S))), f(loc, int(imag(l[i].S))))
			viewSlots(&l[i].V, put)
		}
		y.items = append(y.items, l)
	}
	for i := range y.threads {
		slots(&y.threads[i].V, put)
	}
	for loc := range y.s {
		put(loc, &y.s[loc])
	}
	return y
}

// base is a configuration in which no two times of a location that stand in unlike things are alike, where that can be.
func base(t *testing.T) config.Config {
	t.Helper()
	m := made(t, "0-1 2-4p0 4-6r1 8-9", "3-5 5-6p1", "7-9r")
	c := config.Config{M: with(t, m, memory.Item{Loc: 2, S: in(10, 11), N: 9, V: view.View{Pln: times{1, 5, 0, 3}, Rlx: times{4, 6, 11, 8}}, Owner: 2}), S: times{21, 22, 23, 24}}
	next := 30
	for i := range 3 {
		x := config.Thread{S: thread.State{At: i + 1, R: regs{uint64(i), 5, 0, 7, 1, 2, 3, uint64(9 - i)}}}
		slots(&x.V, func(loc int, at *int) {
			*at = next
			next++
		})
		c.T = append(c.T, x)
	}
	return c
}

// P14.1: of programs out of texts: memory has the starting values, threads have run on from their beginnings, and know nothing.
func TestBegin(t *testing.T) {
	const most = math.MaxUint64
	for _, c := range []struct {
		text  string
		k     int
		start []uint64
		at    []thread.State
	}{
		// no location, one, several, as many as there may be; with starting values and without
		{"thread { } exists 1;", 0, nil, []thread.State{{At: -1}}},
		{"thread { fence(sc); } thread { } exists 1;", 0, nil, []thread.State{{At: 0}, {At: -1}}},
		{"thread { } exists x;", 0, []uint64{0}, []thread.State{{At: -1}}},
		{"init x = 7; thread { } exists 1;", 0, []uint64{7}, []thread.State{{At: -1}}},
		{"init y = 3; thread { store(x, 1, rlx); } exists 1;", 0, []uint64{0, 3}, []thread.State{{At: 0}}},
		{"init x = 3; thread { store(y, 1, rlx); } exists 1;", 0, []uint64{3, 0}, []thread.State{{At: 0}}},
		{"init z = 1; init a = 18446744073709551615; thread { } exists m + b;", 0, []uint64{most, 0, 0, 1}, []thread.State{{At: -1}}},
		{"init d = 4; init c = 3; init b = 2; init a = 1; thread { } exists 1;", 0, []uint64{1, 2, 3, 4}, []thread.State{{At: -1}}},
		// where threads come to by themselves: to an access, to the end, to where they are stuck
		{"thread { r1 = 5; r7 = r1 + 1; r0 = load(x, rlx); r1 = 9; } exists 1;", 0, []uint64{0}, []thread.State{{At: 1, R: regs{1: 5, 7: 6}}}},
		{"thread { r2 = 8; } thread { if (0) { store(x, 1, rlx); } } exists 1;", 0, []uint64{0}, []thread.State{{At: -1, R: regs{2: 8}}, {At: -1}}},
		{"thread { while (1) { } } exists 1;", 0, nil, []thread.State{{At: 0}}},
		{"thread { while (r0 < 2) { r0 = r0 + 1; } } exists 1;", 3, nil, []thread.State{{At: -1, R: regs{2}}}},
		{"thread { while (r0 < 2) { r0 = r0 + 1; } } exists 1;", 1, nil, []thread.State{{At: 0, R: regs{1}}}},
		// as many threads as there may be, each at its own beginning
		{"thread { r0 = 1; } thread { r0 = load(y, acq); } thread { } thread { r3 = 4; r3 = swap(x, 1, ar); store(x, 1, rel); } exists 1;", 0, []uint64{0, 0},
			[]thread.State{{At: -1, R: regs{1}}, {At: 0}, {At: -1}, {At: 1, R: regs{3: 4}}}},
	} {
		want := told{}
		for loc, n := range c.start {
			want.items = append(want.items, []memory.Item{{Loc: loc, N: n, Owner: nobody}})
		}
		for _, s := range c.at {
			want.threads = append(want.threads, config.Thread{S: s})
		}
		if got := config.Begin(program(t, c.text, c.k)); !want.is(got) || got.M.Locs() != len(c.start) {
			t.Errorf("%s: %v", c.text, got)
		}
	}
}

// P14.1: of programs that no text has: no thread, more than there may be, places that are none of the code, too many starting values.
func TestBeginOfAny(t *testing.T) {
	for locs := range api.MaxLocations + 1 {
		start := []uint64{4, 0, math.MaxUint64, 1}[:locs]
		got := config.Begin(unroll.Program{Locs: "abcd"[:locs], Start: start})
		want, _ := memory.Begin(start)
		if !alike(got, config.Config{M: want}) || len(got.T) != 0 {
			t.Error(locs, got)
		}
	}
	p := program(t, "thread { store(x, 1, rlx); r0 = load(x, rlx); } exists 1;", 0)
	for _, place := range []int{-1, 0, 1, 2, -9, math.MinInt, math.MaxInt} {
		for range 7 {
			p.Threads = append(p.Threads, unroll.Thread{Code: p.Threads[0].Code, Begin: place})
		}
	}
	got := config.Begin(p)
	if len(got.T) != len(p.Threads) {
		t.Fatal(got)
	}
	for i, x := range got.T {
		if (x != config.Thread{S: thread.State{At: p.Threads[i].Begin}}) {
			t.Error(i, x)
		}
	}
	for _, p := range []unroll.Program{{}, {Start: make([]uint64, api.MaxLocations+1)}, {Locs: "abcde", Start: make([]uint64, 1000)}} {
		if got := config.Begin(p); got.M.Locs() != 0 || len(got.T) != 0 || got.S != (times{}) {
			t.Error(got)
		}
	}
}

// P14.2: the thread of a place is another one; all else is as it was.
func TestWith(t *testing.T) {
	for threads := range 6 {
		c := base(t)
		for len(c.T) < threads {
			c.T = append(c.T, config.Thread{S: thread.State{At: 10 + len(c.T)}})
		}
		c.T = c.T[:threads]
		was := tell(c)
		other := config.Thread{S: thread.State{At: 99, R: regs{1: 2}}}
		slots(&other.V, func(loc int, at *int) { *at = 7 + loc })
		for _, i := range []int{math.MinInt, -2, -1, 0, 1, 2, 3, 4, 5, 6, math.MaxInt} {
			for _, x := range []config.Thread{other, {}} {
				want := tell(c)
				if i >= 0 && i < threads {
					want.threads[i] = x
				}
				if got := c.With(i, x); !want.is(got) || got.M.Locs() != 3 {
					t.Error(threads, i, got)
				}
			}
			if i >= 0 && i < threads && !was.is(c.With(i, c.T[i])) {
				t.Error(threads, i, "the thread that is there")
			}
			if !was.is(c) {
				t.Fatal(threads, i, "what was handed in is another one")
			}
		}
		if threads > 1 {
			if got := c.With(0, other).With(threads-1, other).With(0, was.threads[0]); !alike(got, c.With(threads-1, other)) {
				t.Error(threads, got)
			}
		}
	}
}

// written spoils a configuration's threads, and the room behind them.
func written(c config.Config) {
	l := c.T[:cap(c.T)]
	for i := range l {
		l[i] = config.Thread{S: thread.State{At: -77}, V: tview.Views{Cur: view.At(0, 99, true)}}
	}
}

// P14.1, P14.2: no call changes what it was handed, nor the room behind it; what it hands out may be written to, and nothing else shows it.
func TestNothingIsShared(t *testing.T) {
	calls := map[string]func(c config.Config) config.Config{
		"ranks":      config.Config.Ranks,
		"spread":     func(c config.Config) config.Config { c, _ = c.Spread(2); return c },
		"spread 1":   func(c config.Config) config.Config { c, _ = c.Spread(1); return c },
		"not spread": func(c config.Config) config.Config { c, _ = c.Spread(0); return c },
		"too far":    func(c config.Config) config.Config { c, _ = c.Spread(span.MaxTime); return c },
		"with":       func(c config.Config) config.Config { return c.With(1, config.Thread{}) },
		"with none":  func(c config.Config) config.Config { return c.With(-1, config.Thread{}) },
		"with last":  func(c config.Config) config.Config { return c.With(len(c.T), config.Thread{}) },
	}
	for name, call := range calls {
		c := base(t)
		full := append(c.T, c.T...)
		c.T = full[:3]
		was, behind := tell(c), slices.Clone(full)
		first, second := call(c), call(c)
		want := tell(second)
		if !want.is(first) || len(first.T) != 3 {
			t.Error(name, first)
		}
		written(first)
		if !was.is(c) || !slices.Equal(full, behind) || !want.is(second) || !want.is(call(c)) {
			t.Error(name, "what was written to an answer shows")
		}
		written(c)
		if !want.is(second) {
			t.Error(name, "what was written to what was handed in shows")
		}
	}
}

// P14.1: a program stays as it was, and is not kept.
func TestBeginSharesNothing(t *testing.T) {
	p := program(t, "init x = 3; thread { r0 = 4; store(y, 1, rlx); } thread { r0 = load(x, rlx); } exists 1;", 0)
	code, start := slices.Clone(p.Threads[0].Code), slices.Clone(p.Start)
	first, second := config.Begin(p), config.Begin(p)
	was := tell(second)
	written(first)
	if !was.is(second) || !was.is(config.Begin(p)) {
		t.Error("what was written to an answer shows")
	}
	if !slices.Equal(code, p.Threads[0].Code) || !slices.Equal(start, p.Start) {
		t.Error("the program is another one")
	}
	p.Start[0], p.Threads[0] = 9, unroll.Thread{}
	if !was.is(second) {
		t.Error("what was written to the program shows")
	}
}
