package machine_test

import (
	"math/rand"
	"strconv"
	"strings"
	"testing"

	"troth/certify"
	"troth/config"
	"troth/memory"
	"troth/places"
	"troth/prog"
	"troth/step"
	"troth/thread"
	"troth/unroll"
	"troth/view"
)

// chance makes programs and configurations by chance.
type chance struct {
	*rand.Rand
	*testing.T
}

// pick is one of some texts.
func (c chance) pick(l ...string) string { return l[c.Intn(len(l))] }

// mode is one that the kind may have, most often one that orders little.
func (c chance) mode(kind uint8) string {
	l := prog.Modes(kind)
	return prog.Mode(l[c.Intn(1+c.Intn(len(l)))])
}

// statement is one: few numbers, so that some of what is written and read is alike.
func (c chance) statement(locs, deep int) string {
	loc, reg := "xyz"[c.Intn(locs):][:1], "r"+strconv.Itoa(c.Intn(2))
	n := c.pick("0", "1", "2", "1", "1", "r0", "r0 + 1")
	switch k := c.Intn(15); {
	case k < 3:
		return reg + " = load(" + loc + ", " + c.mode(prog.Load) + "); "
	case k < 7:
		return "store(" + loc + ", " + n + ", " + c.mode(prog.Store) + "); "
	case k < 8:
		return reg + " = swap(" + loc + ", " + n + ", " + c.mode(prog.Swap) + "); "
	case k < 9:
		return reg + " = add(" + loc + ", 1, " + c.mode(prog.Add) + "); "
	case k < 11:
		return reg + " = cas(" + loc + ", " + c.pick("0", "1", "2") + ", " + n + ", " + c.mode(prog.Cas) + "); "
	case k < 13 && deep < 2:
		return "if (" + reg + ") { " + c.block(locs, deep+1) + "} else { " + c.block(locs, deep+1) + "} "
	case k < 14 && deep < 1:
		return "while (" + reg + " < 2) { " + reg + " = " + reg + " + 1; " + c.block(locs, deep+1) + "} "
	}
	return "fence(" + c.mode(prog.Fence) + "); "
}

func (c chance) block(locs, deep int) string {
	var text strings.Builder
	for range c.Intn(4) + 1 - deep {
		text.WriteString(c.statement(locs, deep))
	}
	return text.String()
}

// program is one of so many locations.
func (c chance) program(locs int) unroll.Program {
	c.Helper()
	text := "init x = 1; "
	for range 2 + c.Intn(2) {
		text += "thread { " + c.block(locs, 0) + "} "
	}
	return program(c.T, text+"exists "+[]string{"", "x", "x + y", "x + y + z"}[locs]+";", 1+c.Intn(2))
}

// vowed is a promise, mostly of what the thread may write next or later, or a reservation, where there is room.
func (c chance) vowed(p unroll.Program, at config.Config, i int) step.Step {
	m := at.M
	for range c.Intn(5) { // of what it writes behind some of its moves
		if l := step.Moves(p, at, i); len(l) > 0 {
			at, _ = step.Do(p, at, i, l[c.Intn(len(l))])
		}
	}
	s := step.Step{Kind: step.Promise, Loc: c.Intn(m.Locs()), N: uint64(c.Intn(3))}
	a, _ := thread.Next(p.Threads[i], at.T[i].S)
	l := at.M.List(a.Loc)
	from := l[c.Intn(len(l))]
	n, mode, writes := a.Writes(from.N)
	free := places.All(m, s.Loc)
	if writes {
		s.Loc, s.N = a.Loc, n
		free = places.All(m, s.Loc)
		if a.Update() && c.Intn(4) > 0 {
			free = append(free, places.Behind(m, s.Loc, from.S.To())...)
		}
	}
	s.S = free[len(free)-1-c.Intn(1+c.Intn(len(free)))]
	if c.Intn(6) == 0 {
		return step.Step{Kind: step.Reserve, Loc: s.Loc, S: s.S}
	}
	if !a.Update() {
		from.V = view.View{}
	}
	if _, s.V, writes = at.T[i].V.Write(s.Loc, s.S.To(), mode, from.V); !writes || c.Intn(9) == 0 {
		s.V = view.At(s.Loc, s.S.To(), true)
	}
	return s
}

// walk tells configurations that steps lead to, one behind the other, at scales that change; if so asked, steps that their thread can answer for alone.
func (c chance) walk(p unroll.Program, sure bool, tell func(at config.Config)) {
	at := config.Begin(p)
	tell(at)
	for range 7 {
		at, _ = at.Ranks().Spread(1 + c.Intn(3))
		i := c.Intn(len(p.Threads))
		l := step.Moves(p, at, i)
		for range 4 {
			l = append(l, c.vowed(p, at, i))
		}
		for range 9 {
			next, is := step.Do(p, at, i, l[len(l)-1-c.Intn(len(l))])
			if _, shown := certify.Certify(p, next, i); is && (shown || !sure) {
				at = next
				break
			}
		}
		tell(at)
	}
}

// jolted is a configuration like one, of which some is as no step left it: more items, and more of them a thread's own.
func (c chance) jolted(at config.Config) config.Config {
	for range 1 + c.Intn(4) {
		loc := c.Intn(at.M.Locs())
		l := places.All(at.M, loc)
		z := memory.Item{Loc: loc, S: l[c.Intn(len(l))], Res: c.Intn(2) == 0, Owner: c.Intn(4) - 1}
		if !z.Res {
			z.N = uint64(c.Intn(3))
			z.V = []view.View{{}, view.At(loc, z.S.To(), true), c.known(at.M).Join(view.At(loc, z.S.To(), true))}[c.Intn(3)]
		}
		at.M, _ = at.M.Add(z)
	}
	if c.Intn(3) == 0 { // a thread that has heard of more
		i := c.Intn(len(at.T))
		t := at.T[i]
		loc, v := c.Intn(at.M.Locs()), c.known(at.M)
		t.V.Acq, t.V.Cur, t.V.Rel[loc] = t.V.Acq.Join(v), t.V.Cur.Join(v), t.V.Rel[loc].Join(v)
		at = at.With(i, t)
	}
	return at
}

// known is a view of messages of a memory.
func (c chance) known(m memory.Memory) (v view.View) {
	for loc := range m.Locs() {
		if c.Intn(2) == 0 {
			continue
		}
		tos := closed(m, loc)
		at := c.Intn(len(tos))
		v.Rlx[loc], v.Pln[loc] = tos[at], tos[c.Intn(at+1)]
	}
	return v
}

// closed are the times at which messages of a location end.
func closed(m memory.Memory, loc int) (tos []int) {
	for _, z := range m.List(loc) {
		if !z.Res {
			tos = append(tos, z.S.To())
		}
	}
	return tos
}

// scenes tells programs by chance, each with configurations of it.
func scenes(t *testing.T, from, to int64, tell func(c chance, p unroll.Program, at config.Config)) {
	t.Helper()
	for seed := from; seed < to; seed++ {
		c := chance{rand.New(rand.NewSource(seed)), t}
		p := c.program(1 + int(seed)%3)
		c.walk(p, c.Intn(3) > 0, func(at config.Config) {
			tell(c, p, at)
			if c.Intn(3) == 0 {
				tell(c, p, c.jolted(at))
			}
		})
	}
}
