package tview_test

import (
	"math/rand"
	"testing"

	"troth/api"
	"troth/tview"
	"troth/view"
)

// readTold is a read told time by time.
func readTold(v tview.Views, loc, to int, mode uint8, m view.View) (tview.Views, bool) {
	known := map[uint8]int{}
	if loc >= 0 && loc < api.MaxLocations {
		known = map[uint8]int{api.Pln: v.Cur.Pln[loc], api.Rlx: v.Cur.Rlx[loc], api.Acq: v.Cur.Rlx[loc]}
	}
	if from, is := known[mode]; !is || to < 0 || to < from {
		return v, false
	}
	got := v
	for i := range slots {
		at, pln := 0, i < api.MaxLocations
		if i%api.MaxLocations == loc && (!pln || mode != api.Pln) {
			at = to
		}
		cur, acq, heard := slot(&got.Cur, i), slot(&got.Acq, i), *slot(&m, i)
		*cur, *acq = max(*cur, at), max(*acq, at)
		switch mode {
		case api.Rlx:
			*acq = max(*acq, heard)
		case api.Acq:
			*cur, *acq = max(*cur, heard), max(*acq, heard)
		}
	}
	return got, true
}

// writeTold is a write told time by time.
func writeTold(v tview.Views, loc, to int, mode uint8, read view.View) (tview.Views, view.View, bool) {
	if mode != api.Pln && mode != api.Rlx && mode != api.Rel || loc < 0 || loc >= api.MaxLocations || to < 0 || to <= v.Cur.Rlx[loc] {
		return v, view.View{}, false
	}
	got, m := v, view.View{}
	for i := range slots {
		at := 0
		if i%api.MaxLocations == loc {
			at = to
		}
		cur, acq, rel := slot(&got.Cur, i), slot(&got.Acq, i), slot(&got.Rel[loc], i)
		*cur, *acq, *rel = max(*cur, at), max(*acq, at), max(*rel, at)
		if mode == api.Rel {
			*rel = max(*rel, *cur)
		}
		if mode != api.Pln {
			*slot(&m, i) = max(*rel, *slot(&read, i))
		}
	}
	return got, m, true
}

// fenceTold is a fence told time by time.
func fenceTold(v tview.Views, mode uint8, s times) (tview.Views, times, bool) {
	if mode < api.Acq || mode > api.Sc {
		return v, s, false
	}
	got := v
	for i := range slots {
		cur := slot(&got.Cur, i)
		if mode != api.Rel {
			*cur = max(*cur, *slot(&v.Acq, i))
		}
		for loc := range got.Rel {
			if rel := slot(&got.Rel[loc], i); mode != api.Acq {
				*rel = max(*rel, *cur)
			}
		}
	}
	if mode != api.Sc {
		return got, s, true
	}
	for loc := range s {
		s[loc] = max(s[loc], got.Cur.Rlx[loc])
	}
	for k := range parts {
		for i := range slots {
			at := slot(part(&got, k), i)
			*at = max(*at, s[i%api.MaxLocations])
		}
	}
	return got, s, true
}

// some is a view by chance, with times from one on; half of them may be.
func some(r *rand.Rand, from, most int) (v view.View) {
	for i := range slots {
		*slot(&v, i) = from + r.Intn(most)
	}
	if r.Intn(2) == 0 {
		v = raised(v)
	}
	return v
}

// raised is a view that may be: no time below 0, and each rlx as late as its pln at least.
func raised(v view.View) view.View {
	for loc := range api.MaxLocations {
		v.Pln[loc] = max(v.Pln[loc], 0)
		v.Rlx[loc] = max(v.Rlx[loc], v.Pln[loc])
	}
	return v
}

// someAll are views by chance; half of them may be.
func someAll(r *rand.Rand) (v tview.Views) {
	from, most := r.Intn(3)-1, 1+r.Intn(7)
	for k := range parts {
		*part(&v, k) = some(r, from, most)
	}
	if r.Intn(2) == 0 {
		for k := range parts {
			*part(&v, k) = raised(*part(&v, k))
		}
		v.Cur = v.Cur.Join(v.Rel[:]...)
		v.Acq = v.Acq.Join(v.Cur)
	}
	return v
}

// against holds each call, at a place, with a view, against what is told time by time.
func against(t *testing.T, v tview.Views, loc, to int, mode uint8, m view.View) {
	t.Helper()
	was := v
	read, is := v.Read(loc, to, mode, m)
	if want, ok := readTold(v, loc, to, mode, m); read != want || is != ok {
		t.Fatalf("%v: read of %d at %d by %d, %v: %v, %v, not %v", v, loc, to, mode, m, read, is, want)
	}
	wrote, tells, is := v.Write(loc, to, mode, m)
	if want, said, ok := writeTold(v, loc, to, mode, m); wrote != want || tells != said || is != ok {
		t.Fatalf("%v: write of %d at %d by %d, %v: %v, %v, %v, not %v, %v", v, loc, to, mode, m, wrote, tells, is, want, said)
	}
	fenced, s, is := v.Fence(mode, m.Rlx)
	if want, said, ok := fenceTold(v, mode, m.Rlx); fenced != want || s != said || is != ok {
		t.Fatalf("%v: fence %d, %v: %v, %v, %v, not %v, %v", v, mode, m.Rlx, fenced, s, is, want, said)
	}
	if v.May() != viewsMay(v) || v != was {
		t.Fatalf("%v: %v", v, v.May())
	}
}

// P13.1, P13.2: views by chance, such that may be and others, held against what is told time by time.
func TestByChance(t *testing.T) {
	r := rand.New(rand.NewSource(13))
	is := 0
	for range 60000 {
		v := someAll(r)
		against(t, v, r.Intn(api.MaxLocations+2)-1, r.Intn(10)-1, uint8(r.Intn(8)), some(r, r.Intn(3)-1, 1+r.Intn(9)))
		if v.May() {
			is++
		}
	}
	if is < 10000 {
		t.Error("too few that may be:", is)
	}
}

// P13.1, P13.2: all views that know of one location up to 2, both ways, held against what is told time by time.
func TestAllSmall(t *testing.T) {
	few := []view.View{}
	for pln := range 3 {
		for rlx := range 3 {
			few = append(few, two(0, pln, rlx))
		}
	}
	count := 0
	for _, cur := range few {
		for _, acq := range few {
			for _, own := range few {
				for _, other := range few {
					loc := count % api.MaxLocations
					v := tview.Views{Cur: turned(cur, loc), Acq: turned(acq, loc)}
					v.Rel[loc], v.Rel[(loc+1)%api.MaxLocations] = turned(own, loc), turned(other, loc)
					m := turned(few[count/api.MaxLocations%len(few)], loc)
					for to := range 4 {
						for mode := api.Pln; mode <= api.Sc; mode++ {
							against(t, v, loc, to, mode, m)
						}
					}
					count++
				}
			}
		}
	}
}

// stretched is what is told at another scale: which time is later stays, of each location, and 0 is 0.
func stretched(loc, at int) int { return at * (at + 2 + loc) }

// P13.1, P13.2: only the order of times counts: what is mapped first, and then done, is what is done first, and then mapped.
func TestOrderAloneCounts(t *testing.T) {
	r := rand.New(rand.NewSource(131))
	for range 20000 {
		v, m, loc, to := someAll(r), raised(some(r, 0, 9)), r.Intn(api.MaxLocations), r.Intn(10)
		for k := range parts {
			*part(&v, k) = raised(*part(&v, k))
		}
		far, heard, late, mode := v.Map(stretched), m.Map(stretched), stretched(loc, to), uint8(1+r.Intn(6))
		read, is := v.Read(loc, to, mode, m)
		if got, ok := far.Read(loc, late, mode, heard); got != read.Map(stretched) || ok != is {
			t.Fatal("read", v, loc, to, mode, m)
		}
		wrote, tells, is := v.Write(loc, to, mode, m)
		if got, said, ok := far.Write(loc, late, mode, heard); got != wrote.Map(stretched) || said != tells.Map(stretched) || ok != is {
			t.Fatal("write", v, loc, to, mode, m)
		}
		fenced, s, is := v.Fence(mode, m.Rlx)
		if got, said, ok := far.Fence(mode, heard.Rlx); got != fenced.Map(stretched) || view.Flat(said) != view.Flat(s).Map(stretched) || ok != is {
			t.Fatal("fence", v, mode, m)
		}
		if far.May() != v.May() {
			t.Fatal("may", v)
		}
	}
}

// message is one that was written: where it ends, and what it knows.
type message struct {
	to int
	v  view.View
}

// run is some threads at some messages, with what must be true of them.
type run struct {
	r     *rand.Rand
	all   []tview.Views
	since [][api.MaxLocations]int // of each thread: up to where it wrote, or read by a strong mode
	m     [api.MaxLocations][]message
	s     times
	done  map[string]int // how often each was done, and refused
}

// begun is a run at its beginning.
func begun(r *rand.Rand, threads int, done map[string]int) *run {
	x := &run{r: r, all: make([]tview.Views, threads), since: make([][api.MaxLocations]int, threads), done: done}
	for loc := range x.m {
		x.m[loc] = []message{{}}
	}
	return x
}

// count counts what was done, or refused.
func (x *run) count(name string, is bool) {
	if !is {
		name += " refused"
	}
	x.done[name]++
}

// act is one access, or fence, of one thread.
func (x *run) act(t *testing.T, i int) {
	t.Helper()
	loc := x.r.Intn(2 + x.r.Intn(api.MaxLocations-1))
	some := x.m[loc][x.r.Intn(len(x.m[loc]))]
	v, is := x.all[i], false
	switch x.r.Intn(8) {
	case 0, 1, 2:
		mode := api.Pln + uint8(x.r.Intn(3))
		v, is = v.Read(loc, some.to, mode, some.v)
		x.count("read", is)
		if is && mode != api.Pln {
			x.since[i][loc] = max(x.since[i][loc], some.to)
		}
	case 3, 4, 5:
		v, is = x.write(t, i, loc)
	case 6:
		v, is = x.update(t, i, loc, some)
	default:
		s, mode := x.s, api.Acq+uint8(x.r.Intn(4))
		v, x.s, is = v.Fence(mode, s)
		if !is || !within(view.Flat(s), view.Flat(x.s)) || mode != api.Sc && s != x.s {
			t.Fatal("fence", mode, s, x.s)
		}
		x.count("fence", is)
	}
	x.judge(t, i, v, is)
}

// write is a write, without a message that was read.
func (x *run) write(t *testing.T, i, loc int) (tview.Views, bool) {
	t.Helper()
	modes := [...]uint8{api.Pln, api.Rlx, api.Rel}
	mode, to := modes[x.r.Intn(len(modes))], x.r.Intn(60)
	v, m, is := x.all[i].Write(loc, to, mode, view.View{})
	x.count("write", is)
	if is {
		x.since[i][loc] = to
		x.m[loc] = append(x.m[loc], message{to, m})
	}
	if !viewMay(m) || !within(m, v.Cur) || is && (mode == api.Pln) != (m == view.View{}) {
		t.Fatal("what a message knows its thread knows", v, m)
	}
	return v, is
}

// update is a read, and a write of the same location behind it.
func (x *run) update(t *testing.T, i, loc int, some message) (tview.Views, bool) {
	t.Helper()
	v, is := x.all[i].Read(loc, some.to, api.Rlx, some.v)
	to := some.to + 1 + x.r.Intn(4)
	v, m, ok := v.Write(loc, to, api.Rlx, some.v)
	x.count("update", is && ok)
	if !is || !ok {
		return x.all[i], false
	}
	x.since[i][loc] = to
	x.m[loc] = append(x.m[loc], message{to, m})
	if !viewMay(m) || !within(some.v, m) || !within(m, v.Acq) {
		t.Fatal("an update knows what it read", v, some, m)
	}
	return v, true
}

// judge holds what a thread knows now against what it knew, and takes it over.
func (x *run) judge(t *testing.T, i int, v tview.Views, is bool) {
	t.Helper()
	was := x.all[i]
	if !is && v != was {
		t.Fatal("refused, but changed", was, v)
	}
	if !v.May() || !viewsMay(v) {
		t.Fatal("they may not be", was, v)
	}
	for k := range parts {
		if !within(*part(&was, k), *part(&v, k)) {
			t.Fatal("one knows less", k, was, v)
		}
	}
	for loc, since := range x.since[i] {
		for to := range since {
			for mode := range uint8(8) {
				if got, is := v.Read(loc, to, mode, x.m[loc][0].v); is || got != v {
					t.Fatal("it reads from earlier", v, loc, to, mode, since)
				}
			}
		}
	}
	x.all[i] = v
}

// P13.3: rows of reads, writes, updates and fences by chance, of threads that read what the others wrote.
func TestRows(t *testing.T) {
	r := rand.New(rand.NewSource(133))
	done := map[string]int{}
	for range 1500 {
		x := begun(r, 1+r.Intn(api.MaxThreads), done)
		for range 5 + r.Intn(60) {
			x.act(t, r.Intn(len(x.all)))
		}
	}
	for _, name := range []string{"read", "read refused", "write", "write refused", "update", "update refused", "fence"} {
		if done[name] < 500 {
			t.Error("too few:", name, done[name])
		}
	}
}

// P13.3: from any views that may be, with any message that may be: what is done leaves such that may be, and none knows less.
func TestStaySuch(t *testing.T) {
	r := rand.New(rand.NewSource(134))
	count := 0
	for range 60000 {
		v := someAll(r)
		if !v.May() {
			continue
		}
		m, loc, to, mode := raised(some(r, 0, 9)), r.Intn(api.MaxLocations), r.Intn(10), uint8(1+r.Intn(6))
		read, _ := v.Read(loc, to, mode, m)
		wrote, tells, _ := v.Write(loc, to, mode, m)
		fenced, s, _ := v.Fence(mode, m.Rlx)
		for _, w := range []tview.Views{read, wrote, fenced} {
			if !viewsMay(w) {
				t.Fatal(v, loc, to, mode, m, w)
			}
			for k := range parts {
				if !within(*part(&v, k), *part(&w, k)) {
					t.Fatal("one knows less", k, v, loc, to, mode, m, w)
				}
			}
		}
		if !viewMay(tells) || !within(view.Flat(m.Rlx), view.Flat(s)) {
			t.Fatal(v, loc, to, mode, m, tells, s)
		}
		count++
	}
	if count < 10000 {
		t.Error("too few that may be:", count)
	}
}

// R3: what a call is handed stays as it was, and what it hands out may be written to.
func TestHandedInStays(t *testing.T) {
	for _, v := range append(right(), grounds()...) {
		was := v
		m, s := two(1, 2, 90), times{1, 90, 3, 4}
		for mode := range uint8(8) {
			for loc := range api.MaxLocations {
				read, _ := v.Read(loc, 100, mode, m)
				wrote, tells, _ := v.Write(loc, 100, mode, m)
				fenced, behind, _ := v.Fence(mode, s)
				mapped := v.Map(func(loc, at int) int { return at ^ 1 })
				for _, w := range []*tview.Views{&read, &wrote, &fenced, &mapped} {
					for k := range parts {
						*part(w, k) = view.Flat(times{-70, -71, -72, -73})
					}
				}
				tells.Pln[0], behind[1] = -74, -75
				v.May()
				if v != was || m != two(1, 2, 90) || s != (times{1, 90, 3, 4}) {
					t.Fatal(v, was, m, s)
				}
			}
		}
	}
}

// R2: what is answered hangs on the arguments alone.
func TestNothingIsKept(t *testing.T) {
	l := append(right(), grounds()...)
	told := func() (answers []any) {
		for i, v := range l {
			for mode := range uint8(8) {
				m := l[(i*7+3)%len(l)].Acq
				read, is := v.Read(i%5, i*5, mode, m)
				wrote, tells, ok := v.Write(i%5, i*5, mode, m)
				fenced, s, may := v.Fence(mode, m.Rlx)
				answers = append(answers, read, is, wrote, tells, ok, fenced, s, may, v.May(), v.Map(func(loc, at int) int { return at ^ loc }))
			}
		}
		return answers
	}
	first := told()
	for i, x := range told() {
		if x != first[i] {
			t.Error(i, x, first[i])
		}
	}
}

// Views are told apart by ==: alike just if all times are.
func TestCompared(t *testing.T) {
	all := map[tview.Views]int{}
	l := append(right(), grounds()[3:]...)
	for i, v := range l {
		all[v] = i
	}
	for i, v := range l {
		if same := (tview.Views{Cur: v.Cur, Acq: v.Acq, Rel: v.Rel}); same != v || l[all[same]] != l[i] {
			t.Error(i, v)
		}
		for k := range parts {
			for at := range slots {
				w := v
				*slot(part(&w, k), at)++
				if w == v {
					t.Error(v, k, at)
				}
			}
		}
	}
}
