package machine_test

import (
	"math/rand"
	"reflect"
	"slices"
	"testing"

	"troth/certify"
	"troth/config"
	"troth/machine"
	"troth/memory"
	"troth/promise"
	"troth/span"
	"troth/step"
	"troth/thread"
	"troth/unroll"
	"troth/view"
)

// worded are the moves at a configuration, as the chapter's words say them.
func worded(p unroll.Program, c config.Config) (l []toldMove) {
	at, is := c.Ranks().Spread(3)
	if !is {
		return nil
	}
	for i := range p.Threads {
		for _, s := range slices.Concat(step.Moves(p, at, i), promise.Candidates(p, at, i)) {
			behind, _ := step.Do(p, at, i, s)
			cert, is := certify.Certify(p, behind, i)
			next := behind.Ranks()
			there := func(m toldMove) bool { return reflect.DeepEqual(m.next, tell(next)) }
			if is && !slices.ContainsFunc(l, there) {
				l = append(l, tellMove(machine.Move{I: i, S: s, Cert: cert, Next: next}))
			}
		}
	}
	return l
}

// few tells whether no thread writes so much that all that it can do can't be gone through soon.
func few(p unroll.Program, at config.Config, most int) bool {
	for i, code := range p.Threads {
		if thread.Most(code, at.T[i].S.At) > most {
			return false
		}
	}
	return true
}

// P19.2: of configurations by chance: just what the chapter's words say, in their order.
func TestAsWorded(t *testing.T) {
	var made [step.Reserve + 1]int
	none, shown := 0, 0
	t.Parallel()
	scenes(t, 0, 150, func(c chance, p unroll.Program, at config.Config) {
		if !few(p, at, 4) {
			return
		}
		got, want := scene{t, p, at}.moves(), worded(p, at)
		if !reflect.DeepEqual(tellMoves(got), want) {
			t.Fatalf("%v, not %v, at %v", tellMoves(got), want, tell(at))
		}
		for _, m := range got {
			made[m.S.Kind]++
			if len(m.Cert) > 0 {
				shown++
			}
		}
		if len(got) == 0 {
			none++
		}
	})
	if slices.Min(made[1:]) < 20 || none < 30 || shown < 2000 {
		t.Error(made, none, shown)
	}
}

// P19.3: what moves lead to is what they can be done at: walks by chance, from the configuration at first on.
func TestWalks(t *testing.T) {
	var made [step.Reserve + 1]int
	ended, stuck := 0, 0
	t.Parallel()
	for seed := range int64(60) {
		c := chance{rand.New(rand.NewSource(seed + 500)), t}
		p := c.program(1 + c.Intn(3))
		at := config.Begin(p)
		if !few(p, at, 4) {
			continue
		}
		for range 50 { // some go on and on: a reservation can be made, and given back
			l := scene{t, p, at}.moves()
			if len(l) == 0 {
				break
			}
			m := l[c.Intn(len(l))]
			at = m.Next
			made[m.S.Kind]++
		}
		if config.Terminal(p, at) {
			ended++
		} else {
			stuck++
		}
	}
	if made[step.Promise] < 60 || made[step.Fulfil] < 5 || made[step.Reserve] < 20 || made[step.Cancel] < 15 || ended < 10 || stuck < 5 {
		t.Error(made, ended, stuck)
	}
}

// free are all spans in which nothing is, up to some times behind the last item of a location.
func free(m memory.Memory, loc, far int) (l []span.Span) {
	end := 0
	gap := func(from, to int) {
		for a := from; a < to; a++ {
			for b := a + 1; b <= to; b++ {
				l = append(l, in(a, b))
			}
		}
	}
	for _, z := range m.List(loc) {
		gap(end, z.S.From())
		end = z.S.To()
	}
	gap(end, end+far)
	return l
}

// pairs are times pln and rlx of some, no pln above its rlx.
func pairs(at []int) (l [][2]int) {
	for n, rlx := range at {
		for _, pln := range at[:n+1] {
			l = append(l, [2]int{pln, rlx})
		}
	}
	return l
}

// vows tells all steps Promise and Reserve of few numbers, with all spans up to so far behind the last item, and all views that are closed behind them.
func vows(m memory.Memory, far int, tell func(s step.Step)) {
	for loc := range m.Locs() {
		for _, s := range free(m, loc, far) {
			tell(step.Step{Kind: step.Reserve, Loc: loc, S: s})
			views := []view.View{{}}
			for l := range m.Locs() {
				at := closed(m, l)
				if l == loc {
					at = slices.DeleteFunc(append(at, s.To()), func(t int) bool { return t > s.To() })
					slices.Sort(at)
				}
				var more []view.View
				for _, v := range views {
					for _, p := range pairs(at) {
						v.Pln[l], v.Rlx[l] = p[0], p[1]
						more = append(more, v)
					}
				}
				views = more
			}
			for n := range uint64(4) {
				for _, v := range views {
					tell(step.Step{Kind: step.Promise, Loc: loc, S: s, N: n, V: v})
				}
			}
		}
	}
}

// others tells all steps of the other kinds of a thread, with all spans and times up to so far behind the last item.
func others(p unroll.Program, at config.Config, i, far int, tell func(s step.Step)) {
	a, _ := thread.Next(p.Threads[i], at.T[i].S)
	spans := free(at.M, a.Loc, far)
	for _, z := range at.M.List(a.Loc) {
		spans = append(spans, z.S)
		tell(step.Step{Kind: step.Read, Read: z.S.To()})
	}
	for _, s := range spans {
		for _, kind := range []uint8{step.Write, step.Fulfil, step.Update, step.Redeem} {
			tell(step.Step{Kind: kind, Read: s.From(), S: s})
		}
	}
	tell(fence)
	for loc := range at.M.Locs() {
		for _, z := range at.M.List(loc) {
			tell(cancel(loc, z.S.From(), z.S.To()))
		}
	}
}

// led are the configurations to which moves lead, each as its key.
func led(p unroll.Program, at config.Config) map[string]bool {
	all := map[string]bool{}
	for _, m := range machine.Moves(p, at) {
		all[m.Next.Key()] = true
	}
	return all
}

// found tells whether a step can be done so that the thread is certified behind it, and sees to it that a move leads to where it does.
func found(t *testing.T, p unroll.Program, at config.Config, i int, s step.Step, all map[string]bool) bool {
	t.Helper()
	next, is := step.Do(p, at, i, s)
	if !is {
		return false
	}
	if _, is = certify.Certify(p, next, i); !is {
		return false
	}
	if !all[next.Ranks().Key()] {
		t.Fatalf("%d: %v, at %v", i, s, tell(at))
	}
	return true
}

// P19.3: whatever step of whatever thread can be done at a configuration by chance, so that the thread is certified behind it, all of them tried: a move leads there; and to nowhere else.
func TestWhateverCanBeDone(t *testing.T) {
	var could [step.Reserve + 1]int
	tried := 0
	t.Parallel()
	scenes(t, 2000, 2120, func(c chance, p unroll.Program, at config.Config) {
		count := 0
		vows(at.M, 2, func(step.Step) { count++ })
		if count > 250 || !few(p, at, 4) {
			return
		}
		all := led(p, at)
		for i := range p.Threads {
			try := func(s step.Step) {
				tried++
				if found(t, p, at, i, s, all) {
					could[s.Kind]++
				}
			}
			vows(at.M, 2, try)
			others(p, at, i, 2, try)
		}
	})
	if slices.Min(could[1:]) < 5 || could[step.Promise] < 800 || tried < 60000 {
		t.Error(could, tried)
	}
}

// P19.3: the same where more stands, by all steps that promise nothing, and by promises by chance, not at places alone.
func TestWhateverIsDone(t *testing.T) {
	var could [step.Reserve + 1]int
	t.Parallel()
	scenes(t, 4000, 4120, func(c chance, p unroll.Program, at config.Config) {
		if !few(p, at, 5) {
			return
		}
		all := led(p, at)
		try := func(i int, s step.Step) {
			if found(t, p, at, i, s, all) {
				could[s.Kind]++
			}
		}
		for i := range p.Threads {
			others(p, at, i, 4, func(s step.Step) { try(i, s) })
			for range 12 {
				s := c.vowed(p, at, i)
				if c.Intn(3) > 0 {
					l, to := free(at.M, s.Loc, 6), s.S.To()
					s.S = l[c.Intn(len(l))]
					s.V = s.V.Map(func(loc, t int) int {
						if loc == s.Loc && t == to {
							return s.S.To()
						}
						return t
					})
				}
				try(i, s)
			}
		}
	})
	if slices.Min(could[1:]) < 20 || could[step.Promise] < 1000 || could[step.Reserve] < 200 {
		t.Error(could)
	}
}
