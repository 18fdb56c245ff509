package step_test

import (
	"maps"
	"slices"
	"testing"

	"troth/config"
	"troth/step"
	"troth/unroll"
)

// runs are the outcomes to which moves lead, with no promise ever made.
func runs(p unroll.Program) []string {
	seen, ends := map[string]bool{}, map[string]bool{}
	var visit func(c config.Config)
	visit = func(c config.Config) {
		c = c.Ranks()
		if seen[c.Key()] {
			return
		}
		seen[c.Key()] = true
		if config.Terminal(p, c) {
			ends[config.Ends(p, c).Text()] = true
		}
		wide, _ := c.Spread(3)
		for i := range p.Threads {
			for _, s := range step.Moves(p, wide, i) {
				next, _ := step.Do(p, wide, i, s)
				visit(next)
			}
		}
	}
	visit(config.Begin(p))
	return slices.Sorted(maps.Keys(ends))
}

// P16.1, P16.2: programs run to their ends, with no promises, end as their accesses' modes let them.
func TestRuns(t *testing.T) {
	for _, c := range []struct {
		text string
		want []string
	}{
		{ // store buffering
			"thread { store(x, 1, rlx); r0 = load(y, rlx); } thread { store(y, 1, rlx); r0 = load(x, rlx); } exists 1;",
			[]string{"0:r0=1 1:r0=1 L0=1 L1=1", "0:r0=1 L0=1 L1=1", "1:r0=1 L0=1 L1=1", "L0=1 L1=1"},
		},
		{ // with a fence between
			"thread { store(x, 1, rlx); fence(sc); r0 = load(y, rlx); } thread { store(y, 1, rlx); fence(sc); r0 = load(x, rlx); } exists 1;",
			[]string{"0:r0=1 1:r0=1 L0=1 L1=1", "0:r0=1 L0=1 L1=1", "1:r0=1 L0=1 L1=1"},
		},
		{ // with one that orders less
			"thread { store(x, 1, rlx); fence(ar); r0 = load(y, rlx); } thread { store(y, 1, rlx); fence(ar); r0 = load(x, rlx); } exists 1;",
			[]string{"0:r0=1 1:r0=1 L0=1 L1=1", "0:r0=1 L0=1 L1=1", "1:r0=1 L0=1 L1=1", "L0=1 L1=1"},
		},
		{ // load buffering, without promises
			"thread { r0 = load(x, rlx); store(y, 1, rlx); } thread { r0 = load(y, rlx); store(x, 1, rlx); } exists 1;",
			[]string{"0:r0=1 L0=1 L1=1", "1:r0=1 L0=1 L1=1", "L0=1 L1=1"},
		},
		{ // message passing
			"thread { store(x, 1, rlx); store(y, 1, rlx); } thread { r0 = load(y, rlx); r1 = load(x, rlx); } exists 1;",
			[]string{"1:r0=1 1:r1=1 L0=1 L1=1", "1:r0=1 L0=1 L1=1", "1:r1=1 L0=1 L1=1", "L0=1 L1=1"},
		},
		{
			"thread { store(x, 1, pln); store(y, 1, rel); } thread { r0 = load(y, acq); r1 = load(x, pln); } exists 1;",
			[]string{"1:r0=1 1:r1=1 L0=1 L1=1", "1:r1=1 L0=1 L1=1", "L0=1 L1=1"},
		},
		{ // by fences
			"thread { store(x, 1, pln); fence(rel); store(y, 1, rlx); } thread { r0 = load(y, rlx); fence(acq); r1 = load(x, pln); } exists 1;",
			[]string{"1:r0=1 1:r1=1 L0=1 L1=1", "1:r1=1 L0=1 L1=1", "L0=1 L1=1"},
		},
		{ // by one half alone
			"thread { store(x, 1, pln); fence(rel); store(y, 1, rlx); } thread { r0 = load(y, rlx); r1 = load(x, pln); } exists 1;",
			[]string{"1:r0=1 1:r1=1 L0=1 L1=1", "1:r0=1 L0=1 L1=1", "1:r1=1 L0=1 L1=1", "L0=1 L1=1"},
		},
		{ // an update passes on what was released
			"thread { store(x, 1, pln); store(y, 1, rel); } thread { r0 = cas(y, 1, 2, rlx); } thread { r0 = load(y, acq); if (r0 == 2) { r1 = load(x, pln); } else { r1 = 9; } } exists 1;",
			[]string{"1:r0=1 2:r0=1 2:r1=9 L0=1 L1=2", "1:r0=1 2:r0=2 2:r1=1 L0=1 L1=2", "1:r0=1 2:r1=9 L0=1 L1=2", "2:r0=1 2:r1=9 L0=1 L1=1", "2:r1=9 L0=1 L1=1"},
		},
		{ // what was read is never older
			"thread { store(x, 1, rlx); } thread { r0 = load(x, rlx); r1 = load(x, rlx); } exists 1;",
			[]string{"1:r0=1 1:r1=1 L0=1", "1:r1=1 L0=1", "L0=1"},
		},
		{
			"thread { store(x, 1, rlx); r0 = load(x, pln); } exists 1;",
			[]string{"0:r0=1 L0=1"},
		},
		{
			"thread { store(x, 1, rlx); store(x, 2, pln); } exists 1;",
			[]string{"L0=2"},
		},
		{
			"thread { store(x, 1, rlx); store(y, 2, rlx); } thread { store(y, 1, rlx); store(x, 2, rlx); } exists 1;",
			[]string{"L0=1 L1=1", "L0=1 L1=2", "L0=2 L1=1", "L0=2 L1=2"},
		},
		{
			"thread { r0 = add(x, 1, rlx); } thread { r0 = add(x, 1, rlx); } exists 1;",
			[]string{"0:r0=1 L0=2", "1:r0=1 L0=2"},
		},
		{
			"thread { r0 = swap(x, 1, rlx); } thread { r0 = swap(x, 2, rlx); } exists 1;",
			[]string{"0:r0=2 L0=1", "1:r0=1 L0=2"},
		},
		{
			"thread { r0 = cas(x, 0, 1, rlx); } thread { r0 = cas(x, 0, 2, rlx); } exists 1;",
			[]string{"0:r0=2 L0=2", "1:r0=1 L0=1"},
		},
	} {
		if got := runs(program(t, c.text, 0)); !slices.Equal(got, c.want) {
			t.Errorf("%s: %q", c.text, got)
		}
	}
}

// P16.1: two threads read what the other one promised, then keep their promises: both read 1.
func TestLoadBuffering(t *testing.T) {
	p := program(t, "thread { r0 = load(x, rlx); store(y, 1, rlx); } thread { r0 = load(y, rlx); store(x, 1, rlx); } exists 1;", 0)
	c := config.Begin(p)
	for n, s := range []struct {
		i int
		s step.Step
	}{
		{0, vow(y, 1, 2, 1, upto(y, 2))}, {1, read(2)}, {1, write(3, 4)}, {0, read(4)}, {0, fulfil(1, 2)},
	} {
		next, is := step.Do(p, c, s.i, s.s)
		if !is || config.Terminal(p, next) != (n == 4) {
			t.Fatal(n, is)
		}
		c = next
	}
	if o := config.Ends(p, c).Text(); o != "0:r0=1 1:r0=1 L0=1 L1=1" {
		t.Error(o)
	}
}

// P16.1: an update keeps its promise where that begins at a message's end; a reservation keeps the room for it.
func TestPromiseOfUpdate(t *testing.T) {
	s := made(t, "thread { r0 = load(y, rlx); r1 = add(x, 2, rlx); } thread { r0 = swap(x, 1, rlx); } exists 1;")
	s.can(vow(x, 1, 3, 2, upto(x, 3))).can(read(0)).are(update(0, 1), update(3, 4))
	s = s.can(vow(x, 0, 1, 2, upto(x, 1))).can(reserve(x, 1, 2))
	if l := step.Moves(s.p, s.c, 1); len(l) != 0 {
		t.Error(l)
	}
	s = s.can(read(0))
	s.are(redeem(0, 1), cancel(x, 1, 2))
	s = s.can(redeem(0, 1)).can(cancel(x, 1, 2))
	if l := step.Moves(s.p, s.c, 1); !slices.Equal(l, []step.Step{update(1, 2)}) {
		t.Error(l)
	}
}
