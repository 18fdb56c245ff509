package config_test

import (
	"math"
	"slices"
	"testing"

	"troth/api"
	"troth/config"
	"troth/memory"
	"troth/thread"
	"troth/unroll"
	"troth/view"
)

// three is a program of three threads, and of two locations.
func three(t *testing.T) unroll.Program {
	t.Helper()
	return program(t, "init y = 6; thread { store(x, 1, rlx); } thread { r0 = load(y, rlx); } thread { if (r0) { fence(sc); } else { r1 = add(x, 2, ar); } } exists 1;", 0)
}

// ended is a configuration of a program in which all threads have ended.
func ended(p unroll.Program) config.Config {
	c := config.Begin(p)
	for i := range c.T {
		c.T[i].S.At = -1
	}
	return c
}

// P14.3: all threads have ended, or all but one.
func TestTerminalThreads(t *testing.T) {
	p := three(t)
	if config.Terminal(p, config.Begin(p)) || !config.Terminal(p, ended(p)) {
		t.Error("at first, and in the end")
	}
	for i := range p.Threads {
		n := len(p.Threads[i].Code)
		for at := -3; at < n+3; at++ {
			c := ended(p)
			c.T[i].S.At = at
			if config.Terminal(p, c) != (at < 0 || at >= n) {
				t.Error(i, at)
			}
		}
		for _, at := range []int{math.MinInt, math.MaxInt} {
			c := ended(p)
			c.T[i].S.At = at
			if !config.Terminal(p, c) {
				t.Error(i, at)
			}
		}
		c := config.Begin(p)
		c.T[i].S.At = -1
		if config.Terminal(p, c) {
			t.Error(i, "alone has ended")
		}
	}
	// registers and views play no part
	c := ended(p)
	for i := range c.T {
		c.T[i].S.R = regs{1, 2, 3}
		slots(&c.T[i].V, func(loc int, at *int) { *at = 9 })
	}
	c.S = times{9, 9, 9, 9}
	if !config.Terminal(p, c) {
		t.Error("registers and views")
	}
	// a thread that is stuck has not ended
	stuck := program(t, "thread { while (1) { } } thread { } exists 1;", 1)
	if config.Terminal(stuck, config.Begin(stuck)) {
		t.Error("stuck")
	}
	// a thread whose beginning is its end has
	for _, text := range []string{"thread { } exists 1;", "thread { } thread { r0 = 5; } thread { if (0) { store(x, 1, rlx); } } exists 1;"} {
		p := program(t, text, 0)
		if !config.Terminal(p, config.Begin(p)) {
			t.Error(text)
		}
	}
	if !config.Terminal(unroll.Program{}, config.Begin(unroll.Program{})) {
		t.Error("no thread")
	}
}

// P14.3: as many threads as the program, more and fewer: fewer never are enough.
func TestTerminalCounts(t *testing.T) {
	p := three(t)
	for n := range 6 {
		c := ended(p)
		for len(c.T) < n {
			c.T = append(c.T, config.Thread{S: thread.State{At: len(c.T) - 3}}) // of these there is no code
		}
		c.T = c.T[:n]
		if config.Terminal(p, c) != (n >= 3) {
			t.Error(n)
		}
		if n > 3 {
			c.T[2].S.At = 0
			if config.Terminal(p, c) {
				t.Error(n, "one has not ended")
			}
		}
	}
	c := ended(p)
	c.T = nil
	if config.Terminal(p, c) || config.Terminal(p, config.Config{}) {
		t.Error("none")
	}
	p = program(t, "thread { } exists 1;", 0)
	if config.Terminal(p, config.Config{}) || !config.Terminal(p, config.Config{T: make([]config.Thread, 1)}) {
		t.Error("a thread without code")
	}
}

// P14.3: no item may have an owner, be it a promise or a reservation, whoever it is; what is nobody's plays no part.
func TestTerminalOwners(t *testing.T) {
	p := three(t)
	for loc := range 2 {
		for _, res := range []bool{false, true} {
			for owner := nobody; owner < api.MaxThreads; owner++ {
				c := ended(p)
				c.M = with(t, c.M, memory.Item{Loc: 0, S: in(1, 2), N: 3, Owner: nobody}, memory.Item{Loc: 1, S: in(1, 2), Res: true, Owner: nobody})
				x := memory.Item{Loc: loc, S: in(4, 6), Res: res, Owner: owner}
				c.M = with(t, c.M, x, memory.Item{Loc: loc, S: in(8, 9), N: 1, Owner: nobody})
				if config.Terminal(p, c) != (owner == nobody) {
					t.Error(x)
				}
				for _, n := range []int{0, 1, 2, 4} {
					q := unroll.Program{Threads: make([]unroll.Thread, n)}
					if config.Terminal(q, config.Config{M: c.M, T: make([]config.Thread, n)}) != (owner == nobody) {
						t.Error(n, x)
					}
				}
				c.M, _ = c.M.Fulfil(loc, 6, owner)
				c.M, _ = c.M.Cancel(loc, 6, owner)
				if !config.Terminal(p, c) {
					t.Error(x, "neither promised nor reserved any more")
				}
			}
		}
	}
	if c := base(t); config.Terminal(unroll.Program{}, c) {
		t.Error(c)
	}
}

// P14.3: all registers of each thread, and of each location the number of the last message: behind none, one, several; not what came last, and no reservation.
func TestEnds(t *testing.T) {
	p := three(t)
	for _, c := range []struct {
		texts []string
		want  []uint64
	}{
		{nil, nil},
		{[]string{""}, []uint64{100}},
		{[]string{"0-1"}, []uint64{1}},
		{[]string{"7-9 10-11 50-60"}, []uint64{3}},
		{[]string{"0-1 1-2r"}, []uint64{1}},
		{[]string{"0-1r 1-2r2"}, []uint64{100}},
		{[]string{"0-1 3-4p0"}, []uint64{2}},
		{[]string{"0-1r0 2-3 4-5r1 8-9r"}, []uint64{2}},
		{[]string{"", ""}, []uint64{100, 101}},
		{[]string{"0-1", "", "3-4 4-5", "5-6r"}, []uint64{1, 101, 2, 103}},
		{[]string{"", "2-3 6-7 9-10 11-12r2", "1-2"}, []uint64{100, 3, 1}},
	} {
		for n := range 5 {
			x := config.Config{M: made(t, c.texts...)}
			var r []regs
			for i := range n {
				r = append(r, regs{uint64(i), 1, 0, math.MaxUint64, 7: uint64(5 * i)})
				x.T = append(x.T, config.Thread{S: thread.State{At: i - 1, R: r[i]}})
			}
			got := config.Ends(p, x)
			if !slices.Equal(got.R, r) || !slices.Equal(got.Final, c.want) {
				t.Error(c, got)
			}
		}
	}
	// the last one is not the one that came last
	m := with(t, begun(t, 1), memory.Item{S: in(8, 9), N: 5, Owner: nobody}, memory.Item{S: in(4, 5), N: 6, V: view.At(0, 5, true), Owner: nobody})
	if got := config.Ends(unroll.Program{}, config.Config{M: m}); !slices.Equal(got.Final, []uint64{5}) || len(got.R) != 0 {
		t.Error(got)
	}
	// starting values are those of locations that nobody wrote to
	if got := config.Ends(p, config.Begin(p)); !slices.Equal(got.Final, []uint64{0, 6}) || !slices.Equal(got.R, make([]regs, 3)) {
		t.Error(got)
	}
}

// P14.3: an outcome is new memory.
func TestEndsSharesNothing(t *testing.T) {
	p, c := three(t), base(t)
	was := tell(c)
	first, second := config.Ends(p, c), config.Ends(p, c)
	want := second.Text()
	for i := range first.R {
		first.R[i] = regs{9, 9, 9}
	}
	clear(first.Final)
	if second.Text() != want || config.Ends(p, c).Text() != want || !was.is(c) {
		t.Error(second, want)
	}
	written(c)
	if second.Text() != want {
		t.Error(second, want)
	}
}

// P14.3: how an outcome is written.
func TestText(t *testing.T) {
	const most = math.MaxUint64
	for _, c := range []struct {
		o    config.Outcome
		want string
	}{
		{config.Outcome{}, ""},
		{config.Outcome{R: []regs{}, Final: []uint64{}}, ""},
		{config.Outcome{R: []regs{{}, {}}}, ""},
		{config.Outcome{R: []regs{{5}}}, "0:r0=5"},
		{config.Outcome{R: []regs{{7: 5}}}, "0:r7=5"},
		{config.Outcome{R: []regs{{}, {}, {2: 1}}}, "2:r2=1"},
		{config.Outcome{Final: []uint64{0}}, "L0=0"},
		{config.Outcome{Final: []uint64{7}}, "L0=7"},
		{config.Outcome{Final: []uint64{3, 0, most, 10}}, "L0=3 L1=0 L2=18446744073709551615 L3=10"},
		{config.Outcome{R: []regs{{}}, Final: []uint64{0, 0}}, "L0=0 L1=0"},
		{config.Outcome{R: []regs{{}, {1}}, Final: []uint64{1}}, "1:r0=1 L0=1"},
		{config.Outcome{R: []regs{{1, 2, 3, 4, 5, 6, 7, 8}}}, "0:r0=1 0:r1=2 0:r2=3 0:r3=4 0:r4=5 0:r5=6 0:r6=7 0:r7=8"},
		{config.Outcome{R: []regs{{0, most, 0, 10}, {}, {1 << 63}, {0, 0, 0, 0, 0, 0, 0, 9}}, Final: []uint64{0, 1}}, "0:r1=18446744073709551615 0:r3=10 2:r0=9223372036854775808 3:r7=9 L0=0 L1=1"},
		{config.Outcome{R: append(make([]regs, 12), regs{3: 4}), Final: append(make([]uint64, 10), 1)}, "12:r3=4 L0=0 L1=0 L2=0 L3=0 L4=0 L5=0 L6=0 L7=0 L8=0 L9=0 L10=1"},
	} {
		if got := c.o.Text(); got != c.want {
			t.Errorf("%v: %q, not %q", c.o, got, c.want)
		}
	}
	o := config.Outcome{R: []regs{{1}}, Final: []uint64{2}}
	if o.Text() != o.Text() || o.R[0] != (regs{1}) || o.Final[0] != 2 {
		t.Error(o)
	}
}

// P14.1 to P14.3: one thread reads what another one wrote; that way, step by step, ends as it must.
func TestOneWay(t *testing.T) {
	p := program(t, "thread { store(x, 1, rlx); } thread { r0 = load(x, rlx); } exists 1;", 0)
	c := config.Begin(p)
	x := c.T[0]
	v, m, is := x.V.Write(0, 3, api.Rlx, view.View{})
	if !is {
		t.Fatal("no write")
	}
	c.M = with(t, c.M, memory.Item{S: in(1, 3), N: 1, V: m, Owner: nobody})
	c = c.With(0, config.Thread{S: thread.Done(p.Threads[0], x.S, 0), V: v})
	if config.Terminal(p, c) {
		t.Error("the other one has not read")
	}
	x = c.T[1]
	v, is = x.V.Read(0, 3, api.Rlx, m)
	if !is {
		t.Fatal("no read")
	}
	c = c.With(1, config.Thread{S: thread.Done(p.Threads[1], x.S, 1), V: v})
	for _, c := range []config.Config{c, c.Ranks()} {
		if got := config.Ends(p, c).Text(); !config.Terminal(p, c) || got != "1:r0=1 L0=1" {
			t.Error(got)
		}
	}
	if got := c.Ranks(); got.T[1].V.Cur != view.At(0, 2, true) || got.M.List(0)[1].V != view.At(0, 2, true) || got.M.List(0)[1].S != in(1, 2) {
		t.Error(got)
	}
}
