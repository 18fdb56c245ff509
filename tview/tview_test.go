package tview_test

import (
	"math"
	"testing"

	"troth/api"
	"troth/tview"
	"troth/view"
)

// times are one of each location.
type times = [api.MaxLocations]int

// rels are views, one of each location.
type rels = [api.MaxLocations]view.View

// parts are how many views there are: cur, acq, then each rel.
const parts = 2 + api.MaxLocations

// nothing knows nothing.
var nothing view.View

// part is one of the views.
func part(v *tview.Views, k int) *view.View {
	switch k {
	case 0:
		return &v.Cur
	case 1:
		return &v.Acq
	}
	return &v.Rel[k-2]
}

// with are views of which one is another one.
func with(v tview.Views, k int, w view.View) tview.Views {
	*part(&v, k) = w
	return v
}

// of is a view by its plns and rlxs.
func of(pln, rlx times) view.View { return view.View{Pln: pln, Rlx: rlx} }

// two is a view that knows of one location one time as pln, and one as rlx.
func two(loc, pln, rlx int) view.View {
	var v view.View
	v.Pln[loc], v.Rlx[loc] = pln, rlx
	return v
}

// turned is a view told of other locations: what is of one is of another one, so many behind it.
func turned(v view.View, by int) (w view.View) {
	for loc := range api.MaxLocations {
		to := (loc + by) % api.MaxLocations
		w.Pln[to], w.Rlx[to] = v.Pln[loc], v.Rlx[loc]
	}
	return w
}

// turnedAll are views told of other locations.
func turnedAll(v tview.Views, by int) (w tview.Views) {
	w.Cur, w.Acq = turned(v.Cur, by), turned(v.Acq, by)
	for loc := range api.MaxLocations {
		w.Rel[(loc+by)%api.MaxLocations] = turned(v.Rel[loc], by)
	}
	return w
}

// turnedTimes are times told of other locations.
func turnedTimes(l times, by int) times { return turned(view.Flat(l), by).Pln }

// base are views that may be, of which no two are alike, and in which each time differs by its way.
func base() tview.Views {
	return tview.Views{
		Cur: of(times{3, 5, 20, 40}, times{6, 9, 27, 44}),
		Acq: of(times{4, 7, 20, 42}, times{8, 9, 30, 47}),
		Rel: rels{
			of(times{3, 1, 0, 7}, times{3, 2, 1, 9}),
			of(times{0, 5, 2, 0}, times{1, 6, 3, 2}),
			of(times{2, 0, 11, 0}, times{4, 0, 12, 1}),
			of(times{0, 2, 0, 30}, times{0, 3, 0, 33}),
		},
	}
}

// grounds are views on which calls are tried: at first, such that may be, such that may not be.
func grounds() []tview.Views {
	flat := view.Flat(times{5, 6, 7, 8})
	low := view.Flat(times{-2, -3, -4, -5})
	return []tview.Views{
		{},
		base(),
		turnedAll(base(), 2),
		{Cur: flat, Acq: flat, Rel: rels{flat, flat, flat, flat}},
		{Cur: of(times{}, times{5, 6, 7, 8}), Acq: of(times{1, 2, 3, 4}, times{9, 9, 9, 9})},
		{Acq: flat},
		{Rel: rels{flat, two(1, 3, 4), nothing, two(3, 1, 9)}},
		{Cur: low, Acq: low, Rel: rels{low, low, low, low}},
		{Cur: of(times{9, 9, 9, 9}, times{1, 2, 3, 4}), Acq: of(times{-1, 0, 1, 2}, times{-7, 3, -7, 3})},
		{Cur: view.Flat(times{math.MaxInt, math.MinInt, 3, -1}), Acq: view.Flat(times{math.MinInt, math.MaxInt, -1, 3})},
	}
}

// views are what messages may know.
func views() []view.View {
	return []view.View{
		nothing,
		two(0, 2, 5), two(1, 2, 5), two(2, 0, 90), two(3, 60, 60),
		of(times{1, 2, 3, 4}, times{5, 6, 7, 8}),
		of(times{90, 80, 70, 60}, times{91, 82, 73, 64}),
		of(times{-1, -2, -3, -4}, times{-4, -3, -2, -1}),
		view.Flat(times{math.MaxInt, 0, math.MaxInt, math.MinInt}),
	}
}

// P13.1, as the chapter's examples show it.
func TestExamples(t *testing.T) {
	v, m, is := tview.Views{}.Write(0, 1, api.Rel, nothing)
	if !is || m != of(times{1}, times{1}) || v.Cur != m || v.Acq != m || v.Rel != (rels{m}) {
		t.Error(v, m, is)
	}
	known := of(times{0, 2, 0, 1}, times{0, 3, 0, 1})
	v, is = tview.Views{}.Read(0, 1, api.Rlx, known)
	at := two(0, 1, 1)
	if !is || v != (tview.Views{Cur: at, Acq: of(times{1, 2, 0, 1}, times{1, 3, 0, 1})}) {
		t.Error(v, is)
	}
	behind, s, is := v.Fence(api.Acq, times{7, 0, 1, 2})
	if !is || behind.Acq != v.Acq || behind.Cur != v.Acq || behind.Rel != (rels{}) || s != (times{7, 0, 1, 2}) {
		t.Error(behind, s, is)
	}
}

// P13.1: how early a message may be that is read: by Pln cur's pln tells it, else cur's rlx, of the message's location alone.
func TestReadFrom(t *testing.T) {
	for by := range api.MaxLocations {
		for _, c := range []struct {
			pln, rlx, to   int
			plain, ordered bool
		}{
			{0, 0, 0, true, true}, {0, 0, 1, true, true},
			{0, 4, 0, true, false}, {0, 4, 3, true, false}, {0, 4, 4, true, true}, {0, 4, 5, true, true},
			{3, 6, 0, false, false}, {3, 6, 2, false, false}, {3, 6, 3, true, false}, {3, 6, 4, true, false},
			{3, 6, 5, true, false}, {3, 6, 6, true, true}, {3, 6, 7, true, true}, {3, 6, 100, true, true},
			{3, 4, 2, false, false}, {3, 4, 3, true, false}, {3, 4, 4, true, true}, {3, 4, 5, true, true},
			{7, 7, 6, false, false}, {7, 7, 7, true, true}, {7, 7, 8, true, true},
			{0, math.MaxInt, math.MaxInt - 1, true, false}, {math.MaxInt - 1, math.MaxInt, math.MaxInt, true, true},
			// cur may not be: each way still goes by its own time
			{6, 3, 2, false, false}, {6, 3, 3, false, true}, {6, 3, 5, false, true}, {6, 3, 6, true, true},
			{-3, -1, 0, true, true}, {math.MinInt, math.MinInt, 0, true, true},
		} {
			for _, ground := range []times{{}, {5, 5, 5, 5}, {0, 90, 0, 90}, {90, 0, 90, 0}} {
				v := tview.Views{Cur: view.Flat(ground), Acq: view.Flat(times{50, 50, 50, 50}), Rel: rels{view.Flat(times{80, 80, 80, 80})}}
				v.Cur.Pln[by], v.Cur.Rlx[by] = c.pln, c.rlx
				for mode, want := range map[uint8]bool{api.Pln: c.plain, api.Rlx: c.ordered, api.Acq: c.ordered} {
					got, is := v.Read(by, c.to, mode, two((by+1)%api.MaxLocations, 2, 3))
					if is != want || !is && got != v || is && got.Cur.Rlx[by] != max(c.rlx, c.to) {
						t.Errorf("%v: read of %d at %d by %d: %v, %v", v, by, c.to, mode, got, is)
					}
				}
			}
		}
	}
}

// P13.1: what is learnt from a message that is read, at first, by each mode.
func TestReadAtFirst(t *testing.T) {
	for _, c := range []struct {
		to       int
		mode     uint8
		m        view.View
		cur, acq view.View
	}{
		{4, api.Pln, nothing, two(0, 0, 4), two(0, 0, 4)},
		{4, api.Rlx, nothing, two(0, 4, 4), two(0, 4, 4)},
		{4, api.Acq, nothing, two(0, 4, 4), two(0, 4, 4)},
		{0, api.Pln, nothing, nothing, nothing},
		{0, api.Rlx, nothing, nothing, nothing},
		{0, api.Acq, nothing, nothing, nothing},
		// the message knows more of its own location
		{4, api.Pln, two(0, 5, 6), two(0, 0, 4), two(0, 0, 4)},
		{4, api.Rlx, two(0, 5, 6), two(0, 4, 4), two(0, 5, 6)},
		{4, api.Acq, two(0, 5, 6), two(0, 5, 6), two(0, 5, 6)},
		{4, api.Rlx, two(0, 1, 6), two(0, 4, 4), two(0, 4, 6)},
		{4, api.Acq, two(0, 1, 6), two(0, 4, 6), two(0, 4, 6)},
		// it knows as much, and less
		{4, api.Pln, two(0, 4, 4), two(0, 0, 4), two(0, 0, 4)},
		{4, api.Rlx, two(0, 4, 4), two(0, 4, 4), two(0, 4, 4)},
		{4, api.Acq, two(0, 2, 3), two(0, 4, 4), two(0, 4, 4)},
		// it knows of another one
		{4, api.Pln, two(2, 5, 6), two(0, 0, 4), two(0, 0, 4)},
		{4, api.Rlx, two(2, 5, 6), two(0, 4, 4), of(times{4, 0, 5, 0}, times{4, 0, 6, 0})},
		{4, api.Acq, two(2, 5, 6), of(times{4, 0, 5, 0}, times{4, 0, 6, 0}), of(times{4, 0, 5, 0}, times{4, 0, 6, 0})},
		{0, api.Pln, two(3, 0, 6), nothing, nothing},
		{0, api.Rlx, two(3, 0, 6), nothing, two(3, 0, 6)},
		{0, api.Acq, two(3, 0, 6), two(3, 0, 6), two(3, 0, 6)},
		// it knows of all
		{2, api.Rlx, of(times{1, 2, 3, 4}, times{5, 6, 7, 8}), two(0, 2, 2), of(times{2, 2, 3, 4}, times{5, 6, 7, 8})},
		{2, api.Acq, of(times{1, 2, 3, 4}, times{5, 6, 7, 8}), of(times{2, 2, 3, 4}, times{5, 6, 7, 8}), of(times{2, 2, 3, 4}, times{5, 6, 7, 8})},
	} {
		for by := range api.MaxLocations {
			want := tview.Views{Cur: turned(c.cur, by), Acq: turned(c.acq, by)}
			if got, is := (tview.Views{}).Read(by, c.to, c.mode, turned(c.m, by)); !is || got != want {
				t.Errorf("read of %d at %d by %d, %v: %v, %v", by, c.to, c.mode, c.m, got, is)
			}
		}
	}
}

// P13.1: what is learnt where something is known: cur and acq each keep what they knew, the rels are as they were.
func TestReadOnBase(t *testing.T) {
	m := of(times{50, 6, 0, 41}, times{50, 6, 29, 43})
	for _, c := range []struct {
		loc, to  int
		mode     uint8
		cur, acq view.View
	}{
		{0, 3, api.Pln, base().Cur, base().Acq},
		{0, 7, api.Pln, of(times{3, 5, 20, 40}, times{7, 9, 27, 44}), base().Acq},
		{0, 9, api.Pln, of(times{3, 5, 20, 40}, times{9, 9, 27, 44}), of(times{4, 7, 20, 42}, times{9, 9, 30, 47})},
		{0, 6, api.Rlx, of(times{6, 5, 20, 40}, times{6, 9, 27, 44}), of(times{50, 7, 20, 42}, times{50, 9, 30, 47})},
		{0, 6, api.Acq, of(times{50, 6, 20, 41}, times{50, 9, 29, 44}), of(times{50, 7, 20, 42}, times{50, 9, 30, 47})},
		{1, 10, api.Pln, of(times{3, 5, 20, 40}, times{6, 10, 27, 44}), of(times{4, 7, 20, 42}, times{8, 10, 30, 47})},
		{1, 10, api.Rlx, of(times{3, 10, 20, 40}, times{6, 10, 27, 44}), of(times{50, 10, 20, 42}, times{50, 10, 30, 47})},
		{1, 9, api.Acq, of(times{50, 9, 20, 41}, times{50, 9, 29, 44}), of(times{50, 9, 20, 42}, times{50, 9, 30, 47})},
		{2, 28, api.Rlx, of(times{3, 5, 28, 40}, times{6, 9, 28, 44}), of(times{50, 7, 28, 42}, times{50, 9, 30, 47})},
		{2, 28, api.Acq, of(times{50, 6, 28, 41}, times{50, 9, 29, 44}), of(times{50, 7, 28, 42}, times{50, 9, 30, 47})},
		{3, 40, api.Pln, base().Cur, base().Acq},
		{3, 44, api.Rlx, of(times{3, 5, 20, 44}, times{6, 9, 27, 44}), of(times{50, 7, 20, 44}, times{50, 9, 30, 47})},
		{3, 48, api.Acq, of(times{50, 6, 20, 48}, times{50, 9, 29, 48}), of(times{50, 7, 20, 48}, times{50, 9, 30, 48})},
	} {
		for by := range api.MaxLocations {
			loc := (c.loc + by) % api.MaxLocations
			v, want := turnedAll(base(), by), turnedAll(tview.Views{Cur: c.cur, Acq: c.acq, Rel: base().Rel}, by)
			if got, is := v.Read(loc, c.to, c.mode, turned(m, by)); !is || got != want {
				t.Errorf("read of %d at %d by %d: %v, %v", loc, c.to, c.mode, got, is)
			}
		}
	}
}

// P13.1: how early a message may be that is written: above cur's rlx of its location, by each mode, whatever else is known.
func TestWriteFrom(t *testing.T) {
	for by := range api.MaxLocations {
		for _, c := range []struct {
			pln, rlx, to int
			want         bool
		}{
			{0, 0, 0, false}, {0, 0, 1, true}, {0, 0, math.MaxInt, true},
			{0, 4, 0, false}, {0, 4, 1, false}, {0, 4, 3, false}, {0, 4, 4, false}, {0, 4, 5, true},
			{3, 6, 2, false}, {3, 6, 3, false}, {3, 6, 4, false}, {3, 6, 5, false}, {3, 6, 6, false}, {3, 6, 7, true}, {3, 6, 100, true},
			{7, 7, 6, false}, {7, 7, 7, false}, {7, 7, 8, true},
			{0, math.MaxInt, math.MaxInt, false}, {0, math.MaxInt - 1, math.MaxInt, true},
			// cur may not be: its rlx alone counts
			{6, 3, 3, false}, {6, 3, 4, true}, {6, 3, 6, true}, {6, 3, 7, true},
			{-3, -1, 0, true}, {0, -1, 0, true}, {math.MinInt, math.MinInt, 0, true},
		} {
			for _, ground := range []times{{}, {5, 5, 5, 5}, {0, 90, 0, 90}, {90, 0, 90, 0}} {
				v := tview.Views{Cur: view.Flat(ground), Acq: view.Flat(times{50, 50, 50, 50}), Rel: rels{view.Flat(times{80, 80, 80, 80})}}
				v.Cur.Pln[by], v.Cur.Rlx[by] = c.pln, c.rlx
				for _, mode := range []uint8{api.Pln, api.Rlx, api.Rel} {
					got, m, is := v.Write(by, c.to, mode, two(1, 2, 3))
					if is != c.want || !is && (got != v || m != nothing) || is && got.Cur.Rlx[by] != c.to {
						t.Errorf("%v: write of %d at %d by %d: %v, %v, %v", v, by, c.to, mode, got, m, is)
					}
				}
			}
		}
	}
}

// P13.1: what is known behind a write at first, and what its message knows, with nothing read and with something.
func TestWriteAtFirst(t *testing.T) {
	at := two(0, 4, 4)
	read := of(times{1, 2, 0, 0}, times{6, 3, 0, 9})
	for _, c := range []struct {
		mode    uint8
		read, m view.View
	}{
		{api.Pln, nothing, nothing},
		{api.Rlx, nothing, at},
		{api.Rel, nothing, at},
		{api.Pln, read, nothing},
		{api.Rlx, read, of(times{4, 2, 0, 0}, times{6, 3, 0, 9})},
		{api.Rel, read, of(times{4, 2, 0, 0}, times{6, 3, 0, 9})},
	} {
		for by := range api.MaxLocations {
			v, m, is := tview.Views{}.Write(by, 4, c.mode, turned(c.read, by))
			want := turnedAll(tview.Views{Cur: at, Acq: at, Rel: rels{at}}, by) // what was read stays with the message
			if !is || v != want || m != turned(c.m, by) {
				t.Errorf("write of %d by %d: %v, %v, %v", by, c.mode, v, m, is)
			}
		}
	}
}

// P13.1: what is known behind a write where something is known: rel of the location alone changes, by Rel to what cur knows too.
func TestWriteOnBase(t *testing.T) {
	read := of(times{0, 60, 1, 0}, times{0, 61, 28, 3})
	for _, c := range []struct {
		loc, to  int
		mode     uint8
		cur, acq view.View
		rel, m   view.View
	}{
		{0, 7, api.Pln, of(times{7, 5, 20, 40}, times{7, 9, 27, 44}), of(times{7, 7, 20, 42}, times{8, 9, 30, 47}), of(times{7, 1, 0, 7}, times{7, 2, 1, 9}), nothing},
		{0, 7, api.Rlx, of(times{7, 5, 20, 40}, times{7, 9, 27, 44}), of(times{7, 7, 20, 42}, times{8, 9, 30, 47}), of(times{7, 1, 0, 7}, times{7, 2, 1, 9}), of(times{7, 60, 1, 7}, times{7, 61, 28, 9})},
		{0, 7, api.Rel, of(times{7, 5, 20, 40}, times{7, 9, 27, 44}), of(times{7, 7, 20, 42}, times{8, 9, 30, 47}), of(times{7, 5, 20, 40}, times{7, 9, 27, 44}), of(times{7, 60, 20, 40}, times{7, 61, 28, 44})},
		{1, 10, api.Rlx, of(times{3, 10, 20, 40}, times{6, 10, 27, 44}), of(times{4, 10, 20, 42}, times{8, 10, 30, 47}), of(times{0, 10, 2, 0}, times{1, 10, 3, 2}), of(times{0, 60, 2, 0}, times{1, 61, 28, 3})},
		{1, 70, api.Rel, of(times{3, 70, 20, 40}, times{6, 70, 27, 44}), of(times{4, 70, 20, 42}, times{8, 70, 30, 47}), of(times{3, 70, 20, 40}, times{6, 70, 27, 44}), of(times{3, 70, 20, 40}, times{6, 70, 28, 44})},
		{2, 28, api.Pln, of(times{3, 5, 28, 40}, times{6, 9, 28, 44}), of(times{4, 7, 28, 42}, times{8, 9, 30, 47}), of(times{2, 0, 28, 0}, times{4, 0, 28, 1}), nothing},
		{2, 31, api.Rlx, of(times{3, 5, 31, 40}, times{6, 9, 31, 44}), of(times{4, 7, 31, 42}, times{8, 9, 31, 47}), of(times{2, 0, 31, 0}, times{4, 0, 31, 1}), of(times{2, 60, 31, 0}, times{4, 61, 31, 3})},
		{3, 45, api.Rel, of(times{3, 5, 20, 45}, times{6, 9, 27, 45}), of(times{4, 7, 20, 45}, times{8, 9, 30, 47}), of(times{3, 5, 20, 45}, times{6, 9, 27, 45}), of(times{3, 60, 20, 45}, times{6, 61, 28, 45})},
	} {
		for by := range api.MaxLocations {
			want := tview.Views{Cur: c.cur, Acq: c.acq, Rel: base().Rel}
			want.Rel[c.loc] = c.rel
			got, m, is := turnedAll(base(), by).Write((c.loc+by)%api.MaxLocations, c.to, c.mode, turned(read, by))
			if !is || got != turnedAll(want, by) || m != turned(c.m, by) {
				t.Errorf("write of %d, turned by %d, at %d by %d: %v, %v, %v", c.loc, by, c.to, c.mode, got, m, is)
			}
		}
	}
}

// P13.1: behind a fence Rel a message of any location knows what cur knew then, even by Rlx; behind none only what was written there.
func TestWriteBehindFence(t *testing.T) {
	for by := range api.MaxLocations {
		x, y := by, (by+1)%api.MaxLocations
		start, _, _ := tview.Views{}.Write(x, 5, api.Pln, nothing)
		fenced, _, _ := start.Fence(api.Rel, times{})
		later, _, _ := fenced.Write(x, 6, api.Pln, nothing) // behind the fence: y's rel does not know it
		at, old := two(y, 3, 3), two(x, 5, 5)
		read := two(x, 1, 9)
		for _, c := range []struct {
			name    string
			v       tview.Views
			mode    uint8
			read, m view.View
		}{
			{"none", start, api.Pln, nothing, nothing},
			{"none", start, api.Rlx, nothing, at},
			{"none", start, api.Rel, nothing, at.Join(old)},
			{"none", start, api.Rlx, read, at.Join(read)},
			{"none", start, api.Rel, read, at.Join(two(x, 5, 9))},
			{"one", fenced, api.Pln, nothing, nothing},
			{"one", fenced, api.Pln, read, nothing},
			{"one", fenced, api.Rlx, nothing, at.Join(old)},
			{"one", fenced, api.Rel, nothing, at.Join(old)},
			{"one", fenced, api.Rlx, read, at.Join(two(x, 5, 9))},
			{"one, then a write", later, api.Rlx, nothing, at.Join(old)},
			{"one, then a write", later, api.Rel, nothing, at.Join(two(x, 6, 6))},
		} {
			if _, m, is := c.v.Write(y, 3, c.mode, c.read); !is || m != c.m {
				t.Errorf("%s: write of %d by %d, read %v: %v, %v", c.name, y, c.mode, c.read, m, is)
			}
		}
	}
}

// P13.1: a write by Rel stays in its location's rel: a later one by Rlx, and one by Rlx behind one by Pln, tells it too.
func TestWritesOfOneLocation(t *testing.T) {
	v, _ := tview.Views{}.Read(1, 2, api.Rlx, nothing)
	v, m, _ := v.Write(0, 1, api.Rlx, nothing)
	if m != two(0, 1, 1) {
		t.Error(m)
	}
	v, m, _ = v.Write(0, 2, api.Rel, nothing)
	if m != of(times{2, 2}, times{2, 2}) {
		t.Error(m)
	}
	v, _ = v.Read(1, 7, api.Rlx, nothing)
	v, m, _ = v.Write(0, 3, api.Pln, nothing)
	if m != nothing {
		t.Error(m)
	}
	v, m, _ = v.Write(0, 4, api.Rlx, nothing)
	if m != of(times{4, 2}, times{4, 2}) {
		t.Error(m)
	}
	if _, m, _ = v.Write(2, 4, api.Rlx, nothing); m != two(2, 4, 4) {
		t.Error(m)
	}
}

// P13.1: each fence on views that differ, with S behind, at and ahead of cur's rlx; each rel knows no more than cur.
func TestFences(t *testing.T) {
	all := of(times{4, 7, 20, 42}, times{8, 9, 30, 47}) // acq, joined with cur
	s := times{7, 9, 50, 0}
	for _, c := range []struct {
		mode   uint8
		want   tview.Views
		behind times
		name   string
	}{
		{api.Acq, tview.Views{Cur: all, Acq: all, Rel: base().Rel}, s, "acq"},
		{api.Rel, tview.Views{Cur: base().Cur, Acq: base().Acq, Rel: sameAll(base().Cur).Rel}, s, "rel"},
		{api.Ar, sameAll(all), s, "ar"},
		{api.Sc, sameAll(of(times{8, 9, 50, 47}, times{8, 9, 50, 47})), times{8, 9, 50, 47}, "sc"},
	} {
		for by := range api.MaxLocations {
			got, behind, is := turnedAll(base(), by).Fence(c.mode, turnedTimes(s, by))
			if !is || got != turnedAll(c.want, by) || behind != turnedTimes(c.behind, by) {
				t.Errorf("%s, turned by %d: %v, %v, %v", c.name, by, got, behind, is)
			}
		}
	}
}

// sameAll are views all of which are one.
func sameAll(w view.View) tview.Views {
	return tview.Views{Cur: w, Acq: w, Rel: rels{w, w, w, w}}
}

// P13.1: fences at first: only Sc, and only where S is ahead, changes anything.
func TestFencesAtFirst(t *testing.T) {
	for _, s := range []times{{}, {1, 0, 0, 0}, {0, 0, 0, 9}, {1, 2, 3, 4}} {
		for _, mode := range []uint8{api.Acq, api.Rel, api.Ar} {
			if v, behind, is := (tview.Views{}).Fence(mode, s); !is || v != (tview.Views{}) || behind != s {
				t.Error(mode, s, v, behind, is)
			}
		}
		if v, behind, is := (tview.Views{}).Fence(api.Sc, s); !is || v != sameAll(view.Flat(s)) || behind != s {
			t.Error(s, v, behind, is)
		}
	}
}

// P13.1: a fence Sc with S behind, at and ahead of cur's rlx, of each location by itself; acq counts, for Ar comes first.
func TestFenceSc(t *testing.T) {
	for loc := range api.MaxLocations {
		for _, c := range []struct{ pln, rlx, acq, s, want int }{
			{0, 0, 0, 0, 0}, {0, 0, 0, 1, 1},
			{2, 5, 5, 0, 5}, {2, 5, 5, 4, 5}, {2, 5, 5, 5, 5}, {2, 5, 5, 6, 6}, {2, 5, 5, 3, 5}, {2, 5, 5, 1, 5},
			{5, 5, 5, 4, 5}, {5, 5, 5, 5, 5}, {5, 5, 5, 6, 6},
			{2, 5, 8, 0, 8}, {2, 5, 8, 5, 8}, {2, 5, 8, 6, 8}, {2, 5, 8, 7, 8}, {2, 5, 8, 8, 8}, {2, 5, 8, 9, 9},
			{0, 5, math.MaxInt, 6, math.MaxInt}, {0, 5, 5, math.MaxInt, math.MaxInt}, {0, 5, 5, math.MinInt, 5}, {0, 0, 0, -1, 0},
		} {
			for _, ground := range []times{{}, {9, 9, 9, 9}, {0, 3, 0, 3}} {
				v := sameAll(view.Flat(ground))
				s, want := ground, ground
				v.Cur.Pln[loc], v.Cur.Rlx[loc] = c.pln, c.rlx
				v.Acq.Pln[loc], v.Acq.Rlx[loc] = c.pln, c.acq
				for at := range v.Rel {
					v.Rel[at].Pln[loc], v.Rel[at].Rlx[loc] = 0, 0
				}
				s[loc], want[loc] = c.s, c.want
				got, behind, is := v.Fence(api.Sc, s)
				if !is || behind != want || got != sameAll(view.Flat(want)) {
					t.Errorf("%v, S %v: %v, %v, %v", v, s, got, behind, is)
				}
			}
		}
	}
}

// P13.1: a fence Sc takes from plns nothing for S: it goes by rlx, and hands all it knows to both ways of all views.
func TestFenceScBothWays(t *testing.T) {
	v := tview.Views{Cur: of(times{1, 2, 3, 4}, times{10, 20, 30, 40}), Acq: of(times{1, 2, 3, 4}, times{10, 20, 30, 40})}
	got, s, is := v.Fence(api.Sc, times{5, 25, 0, 40})
	if want := (times{10, 25, 30, 40}); !is || s != want || got != sameAll(view.Flat(want)) {
		t.Error(got, s, is)
	}
	next, s, is := tview.Views{}.Fence(api.Sc, s) // another thread comes to know it by the same S
	if want := (times{10, 25, 30, 40}); !is || s != want || next != sameAll(view.Flat(want)) {
		t.Error(next, s, is)
	}
	high := tview.Views{Cur: of(times{60}, times{2}), Acq: of(times{70}, times{3})} // they may not be
	got, s, is = high.Fence(api.Sc, times{1})
	if !is || s != (times{3}) || got != sameAll(of(times{70}, times{3})) {
		t.Error(got, s, is)
	}
}

// P13.1: modes that are none of those that a call names.
func TestWrongModes(t *testing.T) {
	for _, v := range grounds() {
		for mode := range 256 {
			mode := uint8(mode)
			reads := mode == api.Pln || mode == api.Rlx || mode == api.Acq
			writes := mode == api.Pln || mode == api.Rlx || mode == api.Rel
			fences := mode == api.Acq || mode == api.Rel || mode == api.Ar || mode == api.Sc
			for loc := range api.MaxLocations {
				to := max(v.Cur.Pln[loc], v.Cur.Rlx[loc], 0)
				for _, m := range views() {
					if got, is := v.Read(loc, to, mode, m); is != reads || !is && got != v {
						t.Errorf("%v: read of %d at %d by %d, %v: %v, %v", v, loc, to, mode, m, got, is)
					}
					if to == math.MaxInt {
						continue
					}
					if got, told, is := v.Write(loc, to+1, mode, m); is != writes || !is && (got != v || told != nothing) {
						t.Errorf("%v: write of %d at %d by %d, %v: %v, %v, %v", v, loc, to+1, mode, m, got, told, is)
					}
				}
			}
			for _, s := range []times{{}, {1, 2, 3, 4}, {90, 90, 90, 90}, {-1, -2, -3, -4}} {
				if got, behind, is := v.Fence(mode, s); is != fences || !is && (got != v || behind != s) {
					t.Errorf("%v: fence %d, %v: %v, %v, %v", v, mode, s, got, behind, is)
				}
			}
		}
	}
}

// P13.1: locations that there are not, and times below 0.
func TestWrongPlaces(t *testing.T) {
	locs := []int{math.MinInt, math.MinInt + 1, -1 << 32, -api.MaxLocations, -2, -1, 0, 1, 2, 3, api.MaxLocations, api.MaxLocations + 1, 2 * api.MaxLocations, 256, 1 << 32, 1<<32 + 1, math.MaxInt - 1, math.MaxInt}
	for _, v := range grounds() {
		for _, loc := range locs {
			for _, to := range []int{math.MinInt, math.MinInt + 1, -1 << 32, -6, -2, -1, 1000, math.MaxInt} {
				is := loc >= 0 && loc < api.MaxLocations && to >= 0
				for mode := range uint8(8) {
					for _, m := range views() {
						if got, ok := v.Read(loc, to, mode, m); ok && !is || !ok && got != v {
							t.Errorf("%v: read of %d at %d by %d, %v: %v, %v", v, loc, to, mode, m, got, ok)
						}
						if got, told, ok := v.Write(loc, to, mode, m); ok && !is || !ok && (got != v || told != nothing) {
							t.Errorf("%v: write of %d at %d by %d, %v: %v, %v, %v", v, loc, to, mode, m, got, told, ok)
						}
					}
				}
			}
		}
	}
}

// P13.1: a time below 0 is refused where cur knows still less; 0 is not.
func TestTimesBelowNothing(t *testing.T) {
	low := sameAll(view.Flat(times{-9, -9, -9, -9}))
	for loc := range api.MaxLocations {
		for _, to := range []int{math.MinInt, -9, -8, -1} {
			for _, mode := range []uint8{api.Pln, api.Rlx, api.Acq, api.Rel} {
				if got, is := low.Read(loc, to, mode, nothing); is || got != low {
					t.Error(loc, to, mode, got)
				}
				if got, m, is := low.Write(loc, to, mode, two(1, 2, 3)); is || got != low || m != nothing {
					t.Error(loc, to, mode, got, m)
				}
			}
		}
		if _, is := low.Read(loc, 0, api.Rlx, nothing); !is {
			t.Error("a read at 0 is refused")
		}
		if _, _, is := low.Write(loc, 0, api.Rlx, nothing); !is {
			t.Error("a write at 0 is refused, though cur's rlx is below it")
		}
	}
}
