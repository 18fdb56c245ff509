package certify_test

import (
	"math/rand"
	"strconv"
	"strings"
	"testing"

	"troth/config"
	"troth/memory"
	"troth/places"
	"troth/prog"
	"troth/step"
	"troth/thread"
	"troth/unroll"
	"troth/view"
)

// chance makes programs and configurations by chance.
type chance struct {
	*rand.Rand
	*testing.T
}

// pick is one of some texts.
func (c chance) pick(l ...string) string { return l[c.Intn(len(l))] }

// mode is one that the kind may have, most often one that orders little.
func (c chance) mode(kind uint8) string {
	l := prog.Modes(kind)
	return prog.Mode(l[c.Intn(1+c.Intn(len(l)))])
}

// statement is one: few numbers, so that some of what is written and read is alike.
func (c chance) statement(locs, deep int) string {
	loc, reg := "xyz"[c.Intn(locs):][:1], "r"+strconv.Itoa(c.Intn(2))
	n := c.pick("0", "1", "2", "1", "1", "r0", "r0 + 1")
	switch k := c.Intn(14); {
	case k < 3:
		return reg + " = load(" + loc + ", " + c.mode(prog.Load) + "); "
	case k < 7:
		return "store(" + loc + ", " + n + ", " + c.mode(prog.Store) + "); "
	case k < 8:
		return reg + " = swap(" + loc + ", " + n + ", " + c.mode(prog.Swap) + "); "
	case k < 9:
		return reg + " = add(" + loc + ", 1, " + c.mode(prog.Add) + "); "
	case k < 11:
		return reg + " = cas(" + loc + ", " + c.pick("0", "1", "2") + ", " + n + ", " + c.mode(prog.Cas) + "); "
	case k < 13 && deep < 2:
		return "if (" + reg + ") { " + c.block(locs, deep+1) + "} else { " + c.block(locs, deep+1) + "} "
	}
	return "fence(" + c.mode(prog.Fence) + "); "
}

func (c chance) block(locs, deep int) string {
	var text strings.Builder
	for range c.Intn(4) + 1 - deep {
		text.WriteString(c.statement(locs, deep))
	}
	return text.String()
}

// program is one of so many locations.
func (c chance) program(locs int) unroll.Program {
	c.Helper()
	text := "init x = 1; "
	for range 2 + c.Intn(2) {
		text += "thread { " + c.block(locs, 0) + "} "
	}
	return program(c.T, text+"exists "+[]string{"", "x", "x + y", "x + y + z"}[locs]+";", 0)
}

// vowed is a promise, mostly of what the thread may write next or later, or a reservation, where there is room.
func (c chance) vowed(p unroll.Program, at config.Config, i int) step.Step {
	if c.Intn(2) == 0 { // of what it writes behind some of its moves
		for range c.Intn(4) {
			if l := step.Moves(p, at, i); len(l) > 0 {
				at.T, _ = c.threads(p, at, i, l[c.Intn(len(l))])
			}
		}
	}
	s := step.Step{Kind: step.Promise, Loc: c.Intn(at.M.Locs()), N: uint64(c.Intn(3))}
	a, _ := thread.Next(p.Threads[i], at.T[i].S)
	l := at.M.List(a.Loc)
	from := l[c.Intn(len(l))]
	n, mode, writes := a.Writes(from.N)
	if writes {
		s.Loc, s.N = a.Loc, n
	}
	free := places.All(at.M, s.Loc)
	if a.Update() {
		free = append(free, places.Behind(at.M, s.Loc, from.S.To())...)
	}
	s.S = free[len(free)-1-c.Intn(len(free))]
	if c.Intn(5) == 0 {
		free = places.Behind(at.M, s.Loc, at.M.List(s.Loc)[c.Intn(len(at.M.List(s.Loc)))].S.To())
		if len(free) > 0 {
			s.S = free[0]
		}
		return step.Step{Kind: step.Reserve, Loc: s.Loc, S: s.S}
	}
	if _, s.V, writes = at.T[i].V.Write(s.Loc, s.S.To(), mode, view.View{}); !writes || c.Intn(9) == 0 {
		s.V = view.At(s.Loc, s.S.To(), true)
	}
	return s
}

// threads are those behind a step, of which the memory stays as it was.
func (c chance) threads(p unroll.Program, at config.Config, i int, s step.Step) ([]config.Thread, bool) {
	next, is := step.Do(p, at, i, s)
	return next.T, is
}

// sworn is a configuration at which a thread has promised some of what it writes when it goes on by itself, or has reserved where it updates.
func (c chance) sworn(p unroll.Program, at config.Config, i int) config.Config {
	ahead := at
	for range 1 + c.Intn(4) {
		l := step.Moves(p, ahead, i)
		if len(l) == 0 {
			break
		}
		s := l[c.Intn(len(l))]
		a, _ := thread.Next(p.Threads[i], ahead.T[i].S)
		ahead, _ = step.Do(p, ahead, i, s)
		if s.Kind == step.Update && c.Intn(4) > 0 {
			at, _ = step.Do(p, at, i, step.Step{Kind: step.Reserve, Loc: a.Loc, S: s.S})
		}
		if (s.Kind == step.Update || s.Kind == step.Write) && c.Intn(2) == 0 {
			z, _ := ahead.M.At(a.Loc, s.S.To())
			at, _ = step.Do(p, at, i, step.Step{Kind: step.Promise, Loc: a.Loc, S: s.S, N: z.N, V: z.V})
		}
	}
	return at
}

// walk tells configurations that steps lead to, one behind the other, at scales that change.
func (c chance) walk(p unroll.Program, tell func(at config.Config)) {
	at := config.Begin(p)
	for range 8 {
		at, _ = at.Ranks().Spread(1 + c.Intn(3))
		i := c.Intn(len(p.Threads))
		l := step.Moves(p, at, i)
		for range 4 {
			l = append(l, c.vowed(p, at, i))
		}
		for range 9 {
			if next, is := step.Do(p, at, i, l[len(l)-1-c.Intn(len(l))]); is {
				at = next
				break
			}
		}
		if c.Intn(2) == 0 {
			at = c.sworn(p, at, c.Intn(len(p.Threads)))
		}
		tell(at)
	}
}

// jolted is a configuration like one, of which some is as no step left it: more items, and more of them a thread's own.
func (c chance) jolted(at config.Config) config.Config {
	for range 1 + c.Intn(4) {
		loc := c.Intn(at.M.Locs())
		l := places.All(at.M, loc)
		z := memory.Item{Loc: loc, S: l[c.Intn(len(l))], Res: c.Intn(2) == 0, Owner: c.Intn(4) - 1}
		if !z.Res {
			z.N = uint64(c.Intn(3))
			z.V = []view.View{{}, view.At(loc, z.S.To(), true), view.At(loc, z.S.To(), true)}[c.Intn(3)]
		}
		at.M, _ = at.M.Add(z)
	}
	return at
}

// scenes tells programs by chance, each with configurations of it.
func scenes(t *testing.T, from, to int64, tell func(c chance, p unroll.Program, at config.Config)) {
	t.Helper()
	for seed := from; seed < to; seed++ {
		c := chance{rand.New(rand.NewSource(seed)), t}
		p := c.program(1 + int(seed)%3)
		c.walk(p, func(at config.Config) {
			tell(c, p, at)
			if c.Intn(3) == 0 {
				tell(c, p, c.jolted(at))
			}
		})
	}
}
