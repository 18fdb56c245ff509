package promise_test

import (
	"maps"
	"slices"
	"testing"

	"troth/api"
	"troth/certify"
	"troth/config"
	"troth/memory"
	"troth/places"
	"troth/promise"
	"troth/span"
	"troth/step"
	"troth/thread"
	"troth/unroll"
	"troth/view"
)

// busy is a thread, mostly one that may still write more than it owes.
func (c chance) busy(p unroll.Program, at config.Config) int {
	i := c.Intn(len(p.Threads))
	for n := range p.Threads {
		if j := (i + n) % len(p.Threads); thread.Most(p.Threads[j], at.T[j].S.At) > certify.Promises(at, j) && c.Intn(20) > 0 {
			return j
		}
	}
	return i
}

// few tells whether a thread writes so little that all that it can do may be gone through.
func few(p unroll.Program, at config.Config, i, most int) bool {
	return thread.Most(p.Threads[i], at.T[i].S.At) <= most
}

// marks are all times at which an item of a location begins or ends, rising: at its rank stands each.
func marks(m memory.Memory, loc int) []int {
	at := map[int]bool{}
	for _, z := range m.List(loc) {
		at[z.S.From()], at[z.S.To()] = true, true
	}
	return slices.Sorted(maps.Keys(at))
}

// byRanks are times of where certifying starts, 70 times their ranks, told by those of the configuration; false, if one is none of a message there.
func byRanks(c config.Config, loc int, of *[api.MaxLocations]int) bool {
	for l := range c.M.Locs() {
		if l == loc {
			continue
		}
		all := marks(c.M, l)
		if of[l]%70 != 0 || of[l]/70 >= len(all) || !slices.Contains(closed(c.M, l), all[of[l]/70]) {
			return false
		}
		of[l] = all[of[l]/70]
	}
	return true
}

// worded are a thread's candidates as the chapter's words say them: at all configurations that Reach tells each write, at all places.
func worded(p unroll.Program, c config.Config, i int) map[step.Step]struct{} {
	const behindAll = 1 << 30
	can := map[step.Step]struct{}{}
	try := func(s step.Step) {
		if next, is := step.Do(p, c, i, s); is {
			if _, is = certify.Certify(p, next, i); is {
				can[s] = struct{}{}
			}
		}
	}
	tried := map[step.Step]bool{}
	wrote := func(loc int, n uint64, v view.View) {
		own := v != view.View{}
		if !byRanks(c, loc, &v.Pln) || !byRanks(c, loc, &v.Rlx) {
			return
		}
		for _, s := range places.All(c.M, loc) {
			v.Pln[loc], v.Rlx[loc] = 0, 0
			if own {
				v.Pln[loc], v.Rlx[loc] = s.To(), s.To()
			}
			if x := (step.Step{Kind: step.Promise, Loc: loc, S: s, N: n, V: v}); !tried[x] {
				tried[x] = true
				try(x)
			}
		}
	}
	if start, is := certify.Start(c); is {
		certify.Reach(p, start, i, func(at config.Config) bool {
			a, _ := thread.Next(p.Threads[i], at.T[i].S)
			reads, update := a.Reads()
			for _, z := range at.M.List(a.Loc) {
				v, may := at.T[i].V.Read(a.Loc, z.S.To(), reads, z.V)
				if !update {
					v, may, z = at.T[i].V, z.S == 0, memory.Item{}
				}
				n, mode, writes := a.Writes(z.N)
				if !may || z.Res || !writes || mode == api.Rel {
					continue
				}
				_, told, _ := v.Write(a.Loc, behindAll, mode, z.V)
				wrote(a.Loc, n, told)
			}
			return true
		})
	}
	for loc := range c.M.Locs() {
		for _, to := range closed(c.M, loc) {
			for _, s := range places.Behind(c.M, loc, to) {
				try(hold(loc, s.From(), s.To()))
			}
		}
	}
	return can
}

// P18.1: of configurations by chance: just what the chapter's words say.
func TestAsWorded(t *testing.T) {
	var made [step.Reserve + 1]int
	none := 0
	t.Parallel()
	scenes(t, 0, 300, func(c chance, p unroll.Program, at config.Config) {
		i := c.busy(p, at)
		if !few(p, at, i, 4) {
			return
		}
		want := worded(p, at, i)
		got := scene{t, p, at}.candidates(i)
		if len(got) != len(want) {
			t.Fatalf("%d: %v, not %v, at %v", i, sorted(got), sorted(slices.Collect(maps.Keys(want))), tell(at))
		}
		for _, s := range got {
			if _, is := want[s]; !is {
				t.Fatalf("%d: %v is none, at %v", i, s, tell(at))
			}
			made[s.Kind]++
		}
		if len(got) == 0 {
			none++
		}
	})
	if made[step.Promise] < 2000 || made[step.Reserve] < 2000 || none < 800 {
		t.Error(made, none)
	}
}

// behindThem are the configurations, told by ranks, to which candidates lead, where all times are 3 times as great.
func behindThem(t *testing.T, p unroll.Program, at config.Config, i int) map[string]struct{} {
	t.Helper()
	wide, is := at.Spread(3)
	if !is {
		t.Fatal("can't be spread", tell(at))
	}
	all := map[string]struct{}{}
	for _, s := range promise.Candidates(p, wide, i) {
		next, _ := step.Do(p, wide, i, s)
		all[next.Ranks().Key()] = struct{}{}
	}
	return all
}

// found tells whether a step can be done so that the thread is certified behind it, and sees to it that one of the candidates leads to where it does.
func found(t *testing.T, p unroll.Program, at config.Config, i int, s step.Step, all map[string]struct{}) bool {
	next, is := step.Do(p, at, i, s)
	if !is {
		return false
	}
	if _, is = certify.Certify(p, next, i); !is {
		return false
	}
	if _, is = all[next.Ranks().Key()]; !is {
		t.Fatalf("%d: %v, at %v", i, s, tell(at))
	}
	return true
}

// free are all spans in which nothing is, up to some times behind the last item of a location.
func free(m memory.Memory, loc, far int) (l []span.Span) {
	end := 0
	gap := func(from, to int) {
		for a := from; a < to; a++ {
			for b := a + 1; b <= to; b++ {
				l = append(l, in(a, b))
			}
		}
	}
	for _, z := range m.List(loc) {
		gap(end, z.S.From())
		end = z.S.To()
	}
	gap(end, end+far)
	return l
}

// pairs are times pln and rlx of some, no pln above its rlx.
func pairs(at []int) (l [][2]int) {
	for n, rlx := range at {
		for _, pln := range at[:n+1] {
			l = append(l, [2]int{pln, rlx})
		}
	}
	return l
}

// every tells all steps Promise and Reserve of few numbers, with all spans up to so far behind the last item, and all views that are closed behind them.
func every(m memory.Memory, far int, tell func(s step.Step)) {
	for loc := range m.Locs() {
		for _, s := range free(m, loc, far) {
			tell(step.Step{Kind: step.Reserve, Loc: loc, S: s})
			views := []view.View{{}}
			for l := range m.Locs() {
				at := closed(m, l)
				if l == loc {
					at = slices.DeleteFunc(append(at, s.To()), func(t int) bool { return t > s.To() })
					slices.Sort(at)
				}
				var more []view.View
				for _, v := range views {
					for _, p := range pairs(at) {
						v.Pln[l], v.Rlx[l] = p[0], p[1]
						more = append(more, v)
					}
				}
				views = more
			}
			for n := range uint64(4) {
				for _, v := range views {
					tell(step.Step{Kind: step.Promise, Loc: loc, S: s, N: n, V: v})
				}
			}
		}
	}
}

// P18.2: whatever step Promise or Reserve can be done at a configuration by chance, so that the thread is certified behind it, all of them tried: one of the candidates leads there.
func TestWhateverCanBeMade(t *testing.T) {
	var could [step.Reserve + 1]int
	tried := 0
	t.Parallel()
	scenes(t, 2000, 2100, func(c chance, p unroll.Program, at config.Config) {
		i := c.busy(p, at)
		count := 0
		every(at.M, 2, func(step.Step) { count++ })
		if count > 600 {
			return
		}
		tried += count
		all := behindThem(t, p, at, i)
		every(at.M, 2, func(s step.Step) {
			if found(t, p, at, i, s, all) {
				could[s.Kind]++
			}
		})
	})
	if could[step.Promise] < 800 || could[step.Reserve] < 800 || tried < 120000 {
		t.Error(could, tried)
	}
}

// P18.2: the same of threads that write more, and of more that stands there, by steps by chance.
func TestWhateverIsVowed(t *testing.T) {
	var could [step.Reserve + 1]int
	t.Parallel()
	scenes(t, 4000, 4200, func(c chance, p unroll.Program, at config.Config) {
		i := c.busy(p, at)
		all := behindThem(t, p, at, i)
		for range 20 {
			s := c.vowed(p, at, i)
			if s.Kind == step.Promise && c.Intn(3) == 0 { // elsewhere than at a place
				l := free(at.M, s.Loc, 6)
				to := s.S.To()
				s.S = l[c.Intn(len(l))]
				s.V = s.V.Map(func(loc, t int) int {
					if loc == s.Loc && t == to {
						return s.S.To()
					}
					return t
				})
			}
			if found(t, p, at, i, s, all) {
				could[s.Kind]++
			}
		}
	})
	if could[step.Promise] < 2000 || could[step.Reserve] < 400 {
		t.Error(could)
	}
}
