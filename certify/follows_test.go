package certify_test

import (
	"slices"
	"testing"

	"troth/api"
	"troth/cap"
	"troth/certify"
	"troth/config"
	"troth/memory"
	"troth/span"
	"troth/step"
	"troth/thread"
	"troth/unroll"
)

// few tells whether a thread writes so little that all that it can do may be gone through.
func few(p unroll.Program, at config.Config, i, most int) bool {
	return thread.Most(p.Threads[i], at.T[i].S.At) <= most
}

// P17.1: of configurations by chance: all items stand where their ranks are, 70 times as great; what is left is reserved, up to one time behind the last one; S is where the last message ends.
func TestStartByChance(t *testing.T) {
	scenes(t, 0, 200, func(c chance, p unroll.Program, at config.Config) {
		got, is := scene{t, p, at}.start()
		ranks := at.Ranks()
		var late times
		for loc := range at.M.Locs() {
			var held []memory.Item
			end := 0
			for _, z := range got.M.List(loc) {
				if z.S.From() != end {
					t.Fatal("a gap", tell(got))
				}
				end = z.S.To()
				if !z.Res {
					late[loc] = end
				}
				if own := (memory.Item{Loc: loc, S: z.S, Res: true, Owner: nobody}); z != own || z.S.To()%70 == 0 {
					held = append(held, z)
				}
			}
			want := ranks.M.List(loc)
			if last := want[len(want)-1]; end != 70*last.S.To()+1 {
				t.Fatal("not one behind the last one", tell(got))
			}
			for _, z := range want {
				z.S = in(70*z.S.From(), 70*z.S.To())
				z.V = z.V.Map(func(loc, to int) int { return 70 * to })
				if !slices.Contains(held, z) {
					t.Fatal("it is gone", z, tell(got))
				}
			}
		}
		wide, _ := ranks.Spread(70)
		if !is || got.S != late || !slices.Equal(got.T, wide.T) {
			t.Fatal(is, tell(got), tell(at))
		}
	})
}

// deep tells the keys of all configurations to which moves lead, told by ranks, the deepest first.
func deep(p unroll.Program, at config.Config, i int, seen map[string]config.Config) {
	key := at.Ranks().Key()
	if _, is := seen[key]; is {
		return
	}
	seen[key] = at
	for _, s := range step.Moves(p, at, i) {
		next, _ := step.Do(p, at, i, s)
		deep(p, next, i, seen)
	}
}

// P17.2: of configurations by chance: all to which moves lead are told, each once, this one first; each of them is behind a move of one that was told ahead of it.
func TestReachByChance(t *testing.T) {
	told, most := 0, 0
	scenes(t, 1000, 1150, func(c chance, p unroll.Program, at config.Config) {
		i := c.Intn(len(p.Threads))
		if c.Intn(2) == 0 {
			at, _ = certify.Start(at)
		}
		if !few(p, at, i, 4) {
			return
		}
		want := map[string]config.Config{}
		deep(p, at, i, want)
		got := scene{t, p, at}.reach(i, all)
		if len(keys(t, got)) != len(want) || !alike(got[0], at) {
			t.Fatal(len(got), len(want))
		}
		ahead := map[string]struct{}{at.Key(): {}}
		for n, c := range got {
			if _, is := want[c.Ranks().Key()]; !is {
				t.Fatal(tell(c))
			}
			if _, is := ahead[c.Key()]; !is {
				t.Fatal(n, tell(c), "is behind none of those ahead of it")
			}
			for _, s := range step.Moves(p, c, i) {
				next, _ := step.Do(p, c, i, s)
				ahead[next.Key()] = struct{}{}
			}
		}
		told, most = told+len(got), max(most, len(got))
	})
	if told < 10000 || most < 300 {
		t.Error(told, most)
	}
}

// free are all spans in which nothing is, up to some times behind the last item of a location.
func free(m memory.Memory, loc, far int) (l []span.Span) {
	end := 0
	gap := func(from, to int) {
		for a := from; a < to; a++ {
			for b := a + 1; b <= to; b++ {
				l = append(l, in(a, b))
			}
		}
	}
	for _, z := range m.List(loc) {
		gap(end, z.S.From())
		end = z.S.To()
	}
	gap(end, end+far)
	return l
}

// every tells every step of the kinds Read to Cancel that could be done at a configuration, with all spans up to so far behind the last item.
func every(p unroll.Program, at config.Config, i, far int, tell func(s step.Step)) {
	tell(fence)
	a, is := thread.Next(p.Threads[i], at.T[i].S)
	if is {
		for _, z := range at.M.List(a.Loc) {
			tell(read(z.S.To()))
		}
		for _, s := range free(at.M, a.Loc, far) {
			tell(write(s.From(), s.To()))
			tell(update(s.From(), s.To()))
		}
	}
	for _, z := range at.M.Owned(i) {
		if z.Res {
			tell(cancel(z.Loc, z.S.From(), z.S.To()))
			continue
		}
		tell(fulfil(z.S.From(), z.S.To()))
		tell(redeem(z.S.From(), z.S.To()))
	}
}

// owes tells whether a thread owns a promise.
func owes(at config.Config, i int) bool {
	return slices.ContainsFunc(at.M.Owned(i), func(z memory.Item) bool { return !z.Res })
}

// serves tells whether any steps, with any spans that are not told by ranks, lead to where the thread owns no promises: times are but a few times as great, and room is but a little.
func serves(p unroll.Program, at config.Config, i int) bool {
	const wide, far = 3, 3
	at, _ = at.Ranks().Spread(wide)
	at.M, _ = cap.Capped(at.M)
	at.S = cap.Top(at.M)
	seen := map[string]struct{}{}
	var visit func(at config.Config) bool
	visit = func(at config.Config) (kept bool) {
		if !owes(at, i) {
			return true
		}
		if _, is := seen[at.Key()]; is {
			return false
		}
		seen[at.Key()] = struct{}{}
		every(p, at, i, far, func(s step.Step) {
			if next, is := step.Do(p, at, i, s); is && !kept {
				kept = visit(next)
			}
		})
		return kept
	}
	return visit(at)
}

// P17.3, P17.4: of configurations by chance: a thread is certified just if some steps, with any spans, lead to where it owns no promises; its certificate is one.
func TestCertifyByChance(t *testing.T) {
	var shown [step.Cancel + 1]int
	var kept, broken int
	scenes(t, 2000, 2700, func(c chance, p unroll.Program, at config.Config) {
		for i := range p.Threads {
			s := scene{t, p, at}
			if !owes(at, i) {
				if l, is := certify.Certify(p, at, i); !is || len(l) > 0 {
					t.Fatal(is, l)
				}
				continue
			}
			if !few(p, at, i, 2+c.Intn(5)/4) {
				continue
			}
			l, is := s.certificate(i)
			if want := serves(p, at, i); is != want {
				t.Fatalf("%d: %v, not %v, at %v", i, is, want, tell(at))
			}
			if !is {
				broken++
				continue
			}
			kept++
			s.shows(i, l)
			for _, x := range l {
				shown[x.Kind]++
			}
		}
	})
	if kept < 700 || broken < 700 {
		t.Error(kept, broken)
	}
	for kind := step.Read; kind <= step.Cancel; kind++ {
		if shown[kind] < 20 {
			t.Error(kind, shown[kind])
		}
	}
}

// P17.4: where any of what Reach tells from Start on owns no promises, and only there, a thread is certified, whatever and however much it writes.
func TestCertifyAndReach(t *testing.T) {
	var kept, broken int
	scenes(t, 4000, 4800, func(c chance, p unroll.Program, at config.Config) {
		i := c.Intn(len(p.Threads))
		start, is := certify.Start(at)
		if !is || !owes(at, i) || !few(p, at, i, 5) {
			return
		}
		want := false
		certify.Reach(p, start, i, func(c config.Config) bool {
			want = certify.Promises(c, i) == 0
			return !want
		})
		l, is := scene{t, p, at}.certificate(i)
		if is != want {
			t.Fatalf("%d: %v, not %v, at %v", i, is, want, tell(at))
		}
		if is {
			scene{t, p, at}.shows(i, l)
			kept++
		} else {
			broken++
		}
	})
	if kept < 300 || broken < 300 {
		t.Error(kept, broken)
	}
}

// some is a step by chance, with spans anywhere in what is free, near to its ends or far from them.
func (c chance) some(p unroll.Program, at config.Config, i int) step.Step {
	var gaps [][2]int
	a, _ := thread.Next(p.Threads[i], at.T[i].S)
	l := at.M.List(a.Loc)
	for n, z := range l[1:] {
		if l[n].S.To() < z.S.From() {
			gaps = append(gaps, [2]int{l[n].S.To(), z.S.From()})
		}
	}
	last := l[len(l)-1].S.To()
	gaps = append(gaps, [2]int{last, min(last+[]int{4, 100, 5000, span.MaxTime}[c.Intn(4)], span.MaxTime)})
	g := gaps[c.Intn(len(gaps))]
	from := g[0]
	if c.Intn(3) > 0 {
		from += c.Intn(max(g[1]-g[0], 1))
	}
	to := g[1]
	if c.Intn(4) > 0 {
		to = from + 1 + c.Intn(1+max(to-from-1, 0)/(1+c.Intn(9)))
	}
	all := []step.Step{fence, write(from, to), update(from, to), read(l[c.Intn(len(l))].S.To())}
	for _, z := range at.M.Owned(i) {
		all = append(all, cancel(z.Loc, z.S.From(), z.S.To()), fulfil(z.S.From(), z.S.To()), redeem(z.S.From(), z.S.To()))
	}
	return all[c.Intn(len(all))]
}

// P17.4: whatever steps by chance, with whatever spans, from Start on, lead to where a thread owns no promises: it is certified.
func TestCertifiedByAnySteps(t *testing.T) {
	came, far := 0, 0
	scenes(t, 6000, 6600, func(c chance, p unroll.Program, at config.Config) {
		i := c.Intn(len(p.Threads))
		start, is := certify.Start(at)
		if !is || !owes(at, i) {
			return
		}
		for range 6 {
			x, by := start, []step.Step(nil)
			for range 60 {
				s := c.some(p, x, i)
				if next, is := step.Do(p, x, i, s); is {
					x, by = next, append(by, s)
				}
			}
			if owes(x, i) {
				continue
			}
			came++
			far += len(by) - 1
			if _, is := certify.Certify(p, at, i); !is {
				t.Fatalf("%d: by %v, at %v", i, by, tell(at))
			}
		}
	})
	if came < 500 || far < 500 {
		t.Error(came, far)
	}
}

// P17.4: so many items as there may be at a location, and as many as a cap can be put on, by chance.
func TestCertifyOfLongRows(t *testing.T) {
	for n := 30; n < api.MaxMessages; n++ {
		for _, text := range []string{"store(x, 1, rlx); store(y, 5, rlx);", "r0 = load(x, rlx); store(y, 5, rlx);", "r0 = cas(x, 6, 1, rlx); store(y, 5, rlx);"} {
			s := one(t, text, append(row(x, n, 0), promise(0, y, 0, 1, 5, upto(y, 1)))...)
			want := n < api.MaxMessages-1 && (text[0] != 's' || n < api.MaxMessages-2)
			if l, is := s.certificate(0); is != want {
				t.Error(n, text, is, l)
			}
		}
	}
}
