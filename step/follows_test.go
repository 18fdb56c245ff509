package step_test

import (
	"math/rand"
	"reflect"
	"strconv"
	"strings"
	"testing"

	"troth/api"
	"troth/cap"
	"troth/config"
	"troth/memory"
	"troth/places"
	"troth/prog"
	"troth/span"
	"troth/step"
	"troth/thread"
	"troth/unroll"
	"troth/view"
)

// chance makes programs and configurations by chance.
type chance struct {
	*rand.Rand
	*testing.T
}

func by(t *testing.T, seed int64) chance { return chance{rand.New(rand.NewSource(seed)), t} }

// pick is one of some texts.
func (c chance) pick(l ...string) string { return l[c.Intn(len(l))] }

// statement is one: few numbers, so that some of what is written and read is alike.
func (c chance) statement(locs, deep int) string {
	loc, mode := "xyz"[c.Intn(locs):][:1], func(kind uint8) string {
		l := prog.Modes(kind)
		return prog.Mode(l[c.Intn(len(l))])
	}
	reg := "r" + strconv.Itoa(c.Intn(2))
	n := c.pick("0", "1", "2", "1", "1", "r0", "r0 + 1")
	switch k := c.Intn(14); {
	case k < 3:
		return reg + " = load(" + loc + ", " + mode(prog.Load) + "); "
	case k < 6:
		return "store(" + loc + ", " + n + ", " + mode(prog.Store) + "); "
	case k < 7:
		return reg + " = swap(" + loc + ", " + n + ", " + mode(prog.Swap) + "); "
	case k < 8:
		return reg + " = add(" + loc + ", 1, " + mode(prog.Add) + "); "
	case k < 11:
		return reg + " = cas(" + loc + ", " + c.pick("0", "1", "2") + ", " + n + ", " + mode(prog.Cas) + "); "
	case k < 12 && deep < 2:
		return "if (" + reg + ") { " + c.block(locs, deep+1) + "} else { " + c.block(locs, deep+1) + "} "
	}
	return "fence(" + mode(prog.Fence) + "); "
}

func (c chance) block(locs, deep int) string {
	var text strings.Builder
	for range c.Intn(4) + 1 - deep {
		text.WriteString(c.statement(locs, deep))
	}
	return text.String()
}

// program is one of so many locations.
func (c chance) program(locs int) unroll.Program {
	c.Helper()
	text := "init x = 1; "
	for range 2 + c.Intn(2) {
		text += "thread { " + c.block(locs, 0) + "} "
	}
	return program(c.T, text+"exists "+[]string{"", "x", "x + y", "x + y + z"}[locs]+";", 0)
}

// latest is the latest time of a configuration's items.
func latest(c config.Config) (late int) {
	for loc := range c.M.Locs() {
		l := c.M.List(loc)
		late = max(late, l[len(l)-1].S.To())
	}
	return late
}

// known is a view of messages of a memory.
func (c chance) known(m memory.Memory) (v view.View) {
	for loc := range m.Locs() {
		if c.Intn(2) == 0 {
			continue
		}
		var tos []int
		for _, z := range m.List(loc) {
			if !z.Res {
				tos = append(tos, z.S.To())
			}
		}
		at := c.Intn(len(tos))
		v.Rlx[loc], v.Pln[loc] = tos[at], tos[c.Intn(at+1)]
	}
	return v
}

// any is a step of any kind, that hardly ever can be done, or is near to one that can.
func (c chance) any(x config.Config, i int, near []step.Step) step.Step {
	late := latest(x) + 3
	s := step.Step{Kind: uint8(c.Intn(11)), Loc: c.Intn(x.M.Locs()+2) - 1, Read: c.Intn(late+2) - 1, N: uint64(c.Intn(3))}
	to := 1 + c.Intn(late)
	s.S = in(c.Intn(to), to)
	if c.Intn(2) == 0 && s.Loc >= 0 && s.Loc < x.M.Locs() {
		l := places.All(x.M, s.Loc)
		s.S = l[c.Intn(len(l))]
	}
	if c.Intn(2) == 0 {
		s.Read = s.S.From()
	}
	if c.Intn(9) == 0 {
		l := wrong()
		s.S = l[c.Intn(len(l))]
	}
	if own := x.M.Owned(i); len(own) > 0 && c.Intn(3) == 0 {
		z := own[c.Intn(len(own))]
		s.Loc, s.S, s.Read = z.Loc, z.S, z.S.From()
	}
	if len(near) > 0 && c.Intn(2) == 0 {
		n := near[c.Intn(len(near))]
		for _, z := range near { // promises are kept seldom enough
			if (z.Kind == step.Fulfil || z.Kind == step.Redeem) && c.Intn(3) == 0 {
				n = z
			}
		}
		s.Kind, s.S, s.Read, s.Loc = n.Kind, n.S, n.Read, n.Loc
		if c.Intn(3) == 0 {
			s.Kind = uint8(c.Intn(11))
		}
	}
	s.V = c.told(x, i, s)
	return s
}

// told is a view for a promise: what a write there would tell, or any.
func (c chance) told(x config.Config, i int, s step.Step) view.View {
	own := view.At(s.Loc, s.S.To(), true)
	switch c.Intn(6) {
	case 0:
		return view.View{}
	case 1:
		return c.known(x.M).Join(own)
	case 2:
		return c.known(x.M)
	case 3:
		if s.Loc >= 0 && s.Loc < api.MaxLocations {
			return x.T[i].V.Rel[s.Loc].Join(own)
		}
	}
	return own
}

// vowed is a promise, mostly of what the thread may write next, or a reservation, where there is room.
func (c chance) vowed(p unroll.Program, x config.Config, i int) step.Step {
	s := step.Step{Kind: step.Promise, Loc: c.Intn(x.M.Locs()), N: uint64(c.Intn(3))}
	a, _ := thread.Next(p.Threads[i], x.T[i].S)
	l := x.M.List(a.Loc)
	from := l[c.Intn(len(l))]
	n, mode, writes := a.Writes(from.N)
	if writes {
		s.Loc, s.N = a.Loc, n
	}
	free := places.All(x.M, s.Loc)
	if a.Update() {
		free = append(free, places.Behind(x.M, s.Loc, from.S.To())...)
	}
	s.S = free[len(free)-1-c.Intn(len(free))]
	switch k := c.Intn(4); {
	case k == 0:
		return step.Step{Kind: step.Reserve, Loc: s.Loc, S: s.S}
	case k == 1 || !writes:
		s.V = c.told(x, i, s)
		return s
	}
	_, s.V, _ = x.T[i].V.Write(s.Loc, s.S.To(), mode, from.V)
	return s
}

// walk tells configurations that steps lead to, one behind the other, at scales that change.
func (c chance) walk(p unroll.Program, tell func(x config.Config)) {
	x := config.Begin(p)
	for range 14 {
		tell(x)
		x, _ = x.Ranks().Spread(1 + c.Intn(3))
		i := c.Intn(len(p.Threads))
		l := step.Moves(p, x, i)
		for range 3 {
			l = append(l, c.vowed(p, x, i))
		}
		for range 9 {
			if next, is := step.Do(p, x, i, l[c.Intn(len(l))]); is {
				x = next
				break
			}
		}
	}
	tell(x)
}

// jolted is a configuration like one, of which some is as no step left it: what a thread knows, items and promises more, no room.
func (c chance) jolted(p unroll.Program, x config.Config) config.Config {
	for range c.Intn(4) {
		loc := c.Intn(x.M.Locs())
		l := places.All(x.M, loc)
		z := memory.Item{Loc: loc, S: l[c.Intn(len(l))], Res: c.Intn(3) == 0, Owner: c.Intn(4) - 1}
		if !z.Res {
			z.N = uint64(c.Intn(3))
			z.V = c.told(x, 0, step.Step{Loc: loc, S: z.S})
		}
		x.M, _ = x.M.Add(z)
	}
	if c.Intn(2) == 0 {
		i := c.Intn(len(x.T))
		me := x.T[i]
		me.V.Cur = c.known(x.M)
		me.V.Acq = me.V.Cur.Join(c.known(x.M))
		for loc := range x.M.Locs() {
			if c.Intn(2) == 0 {
				me.V.Rel[loc] = me.V.Cur
			} else {
				me.V.Rel[loc] = view.View{}
			}
		}
		x = x.With(i, me)
	}
	for i := range p.Threads {
		for range c.Intn(3) {
			x, _ = step.Do(p, x, i, c.vowed(p, x, i))
		}
	}
	if c.Intn(4) == 0 {
		x.M, _ = cap.Capped(x.M)
		x.S = cap.Top(x.M)
	}
	return x
}

// scenes tells programs by chance, each with configurations of it.
func scenes(t *testing.T, from, to int64, tell func(c chance, p unroll.Program, x config.Config)) {
	t.Helper()
	for seed := from; seed < to; seed++ {
		c := by(t, seed)
		p := c.program(1 + int(seed)%3)
		c.walk(p, func(x config.Config) {
			tell(c, p, x)
			if c.Intn(2) == 0 {
				tell(c, p, c.jolted(p, x))
			}
		})
	}
}

// P16.1: steps of all kinds, at configurations by chance, held against a telling condition by condition; what can't be done leaves all as it was, and what is handed in stays.
func TestDoByChance(t *testing.T) {
	var done, not [11]int
	scenes(t, 0, 240, func(c chance, p unroll.Program, x config.Config) {
		i := c.Intn(len(p.Threads))
		was := tell(x)
		near := step.Moves(p, x, i)
		for n := range 25 {
			s := c.any(x, i, near)
			if n%5 == 0 {
				s = c.vowed(p, x, i)
			}
			want, could := judged(p, x, i, s)
			got, is := step.Do(p, x, i, s)
			if is != could || !reflect.DeepEqual(tell(got), tell(want)) {
				t.Fatalf("%d %+v: %v, not %v: %v, not %v", i, s, is, could, tell(got), tell(want))
			}
			if is {
				done[s.Kind]++
			} else {
				not[s.Kind]++
			}
		}
		if !reflect.DeepEqual(tell(x), was) {
			t.Fatal("what was handed in is another one", tell(x), was)
		}
	})
	for kind, n := range done {
		if kind > 0 && kind < 10 && n < 200 || not[kind] < 1000 {
			t.Error(kind, n, not[kind])
		}
	}
	if done[0] != 0 || done[10] != 0 {
		t.Error(done)
	}
}

// P16.2: the moves of configurations by chance, held against all steps that may be, each judged by itself and put in order.
func TestMovesByChance(t *testing.T) {
	var seen [10]int
	both := 0 // moves of an update that keep a promise at one message, ahead of others at a later one
	scenes(t, 1000, 1400, func(c chance, p unroll.Program, x config.Config) {
		for i := range p.Threads {
			s := scene{t, p, x}
			got, want := step.Moves(p, x, i), moves(p, x, i)
			if !reflect.DeepEqual(append([]step.Step{}, got...), append([]step.Step{}, want...)) {
				t.Fatalf("%d: %v, not %v: %v", i, got, want, tell(x))
			}
			for n, z := range got {
				seen[z.Kind]++
				if n > 0 && got[n-1].Kind == step.Redeem && z.Kind < step.Cancel {
					both++
				}
			}
			if i == 0 && c.Intn(4) == 0 {
				s.moves()
			}
		}
	})
	for kind := step.Read; kind <= step.Cancel; kind++ {
		if seen[kind] < 200 {
			t.Error(kind, seen[kind])
		}
	}
	if both < 20 {
		t.Error(both)
	}
}

// every tells every step of the kinds Read to Cancel that could be done at a configuration: with all messages' times, and all spans up to some time behind the latest one.
func every(p unroll.Program, x config.Config, i int, tell func(s step.Step)) {
	a, _ := thread.Next(p.Threads[i], x.T[i].S)
	l := x.M.List(a.Loc)
	tell(fence)
	for at := range l[len(l)-1].S.To() + 2 {
		tell(read(at))
	}
	for loc := range x.M.Locs() {
		l := x.M.List(loc)
		last := l[len(l)-1].S.To()
		for to := 1; to < last+4; to++ {
			for from := range to {
				tell(cancel(loc, from, to))
				if loc == a.Loc {
					tell(write(from, to))
					tell(fulfil(from, to))
					tell(update(from, to))
					tell(redeem(from, to))
				}
			}
		}
	}
}

// P16.3: whatever step can be done, one of Moves, where times are 3 times as great, leads to what is told alike by ranks.
func TestMovesAreAllThereIs(t *testing.T) {
	var seen [10]int
	places := 0 // spans that are no places
	scenes(t, 5000, 5300, func(c chance, p unroll.Program, x config.Config) {
		if c.Intn(2) == 0 {
			x = x.Ranks()
		}
		i := c.Intn(len(p.Threads))
		wide, is := x.Spread(3)
		if !is || latest(x) > 24 {
			return
		}
		led := map[string]bool{}
		for _, s := range step.Moves(p, wide, i) {
			next, is := step.Do(p, wide, i, s)
			if !is {
				t.Fatalf("%v can't be done at %v", s, tell(wide))
			}
			led[next.Ranks().Key()] = true
		}
		every(p, x, i, func(s step.Step) {
			next, is := step.Do(p, x, i, s)
			if !is {
				return
			}
			seen[s.Kind]++
			if s.S.To() > s.S.From()+1 {
				places++
			}
			if !led[next.Ranks().Key()] {
				t.Fatalf("%d: %v, at %v, is like none of %v", i, s, tell(x), step.Moves(p, wide, i))
			}
		})
	})
	for kind := step.Read; kind <= step.Cancel; kind++ {
		if seen[kind] < 80 {
			t.Error(kind, seen[kind])
		}
	}
	if places < 2000 {
		t.Error(places)
	}
}

// P16.3: the latest times have fewer places; up to them all is as elsewhere.
func TestMovesUpToTheLatestTimes(t *testing.T) {
	const early = span.MaxTime/3 - 1
	s := one(t, "store(x, 1, rel);", message(x, 4, early, 1, view.View{}))
	wide, is := s.c.Spread(3)
	if !is {
		t.Fatal("it may not be")
	}
	s.c = wide
	s.are(write(0, 12), write(0, 1), write(1, 12), write(1, 2), write(3*early, 3*early+1), write(3*early+1, 3*early+2))
}
