package tview_test

import (
	"math"
	"slices"
	"testing"

	"troth/api"
	"troth/tview"
	"troth/view"
)

// slots is how many times a view has.
const slots = 2 * api.MaxLocations

// slot is one time of a view: the plns by their locations, then the rlxs.
func slot(v *view.View, i int) *int {
	if i < api.MaxLocations {
		return &v.Pln[i]
	}
	return &v.Rlx[i-api.MaxLocations]
}

// viewMay tells it time by time.
func viewMay(v view.View) bool {
	for loc := range api.MaxLocations {
		if v.Pln[loc] < 0 || v.Rlx[loc] < 0 || v.Pln[loc] > v.Rlx[loc] {
			return false
		}
	}
	return true
}

// within tells it time by time.
func within(v, w view.View) bool {
	for i := range slots {
		if *slot(&v, i) > *slot(&w, i) {
			return false
		}
	}
	return true
}

// viewsMay tells it of all of them, one by one.
func viewsMay(v tview.Views) bool {
	is := within(v.Cur, v.Acq)
	for k := range parts {
		is = is && viewMay(*part(&v, k)) && (k < 2 || within(*part(&v, k), v.Cur))
	}
	return is
}

// right are views that may be.
func right() []tview.Views {
	high := view.Flat(times{math.MaxInt, math.MaxInt, math.MaxInt, math.MaxInt})
	some := of(times{1, 0, 3, 4}, times{1, 2, 3, 7})
	return []tview.Views{
		{},
		base(), turnedAll(base(), 1), turnedAll(base(), 2), turnedAll(base(), 3),
		{Acq: some}, {Acq: high},
		{Cur: some, Acq: some},
		{Cur: some, Acq: high, Rel: rels{some, nothing, some, two(3, 4, 7)}},
		sameAll(some), sameAll(high), sameAll(two(2, 0, 1)),
		{Cur: some, Acq: of(times{1, 2, 3, 4}, times{1, 2, 3, 7})},
		{Cur: some, Acq: some, Rel: rels{two(0, 1, 1), two(1, 0, 2), two(2, 3, 3), two(3, 4, 7)}},
		{Cur: some, Acq: some, Rel: rels{two(3, 4, 7), two(2, 3, 3), two(1, 0, 2), two(0, 1, 1)}},
	}
}

// P13.2: views that may be; rels need not be within one another.
func TestMay(t *testing.T) {
	for _, v := range right() {
		if !v.May() {
			t.Error(v)
		}
	}
}

// P13.2: one of them alone may not be, though each is within what it is to be within.
func TestMayOfEach(t *testing.T) {
	for loc := range api.MaxLocations {
		room := of(times{9, 9, 9, 9}, times{9, 9, 9, 9})
		v := tview.Views{Cur: room, Acq: room}
		if !v.May() {
			t.Fatal(v)
		}
		for k := range parts {
			w := two(loc, 6, 5)
			if k < 2 { // cur and acq have to be as late as those within them
				w = room
				w.Pln[loc] = 10
			}
			spoilt := with(v, k, w)
			if k == 0 {
				spoilt.Acq = view.Flat(times{10, 10, 10, 10})
			}
			if spoilt.May() {
				t.Errorf("a pln above its rlx: %v", spoilt)
			}
		}
		for at := range api.MaxLocations {
			for _, low := range []view.View{two(loc, -1, 0), two(loc, -1, -1), two(loc, 0, -1), two(loc, math.MinInt, 5)} {
				if spoilt := with(v, 2+at, low); spoilt.May() {
					t.Errorf("a time below 0: %v", spoilt)
				}
			}
		}
	}
	low := sameAll(two(0, -1, -1))
	if low.May() {
		t.Error(low)
	}
}

// P13.2: cur not within acq, by one time of one location.
func TestMayCurWithinAcq(t *testing.T) {
	for _, g := range right() {
		for i := range slots {
			v := g
			if *slot(&v.Acq, i) == math.MaxInt {
				continue
			}
			*slot(&v.Cur, i) = *slot(&v.Acq, i) + 1
			if i < api.MaxLocations { // so that cur may be, by itself
				v.Cur.Rlx[i] = max(v.Cur.Rlx[i], v.Cur.Pln[i])
			}
			if v.May() {
				t.Errorf("%v", v)
			}
			for k := range parts {
				if is := viewMay(*part(&v, k)); !is {
					t.Fatal("it is spoilt by itself", k, v)
				}
			}
		}
	}
}

// P13.2: one rel not within cur, by one time of one location, though it is within acq.
func TestMayRelWithinCur(t *testing.T) {
	for _, g := range right() {
		for at := range api.MaxLocations {
			for i := range slots {
				v := g
				if *slot(&v.Cur, i) == math.MaxInt {
					continue
				}
				w := &v.Rel[at]
				*slot(w, i) = *slot(&v.Cur, i) + 1
				if i < api.MaxLocations {
					w.Rlx[i] = max(w.Rlx[i], w.Pln[i])
				}
				v.Acq = v.Acq.Join(*w)
				if v.May() {
					t.Errorf("rel of %d: %v", at, v)
				}
				if !viewMay(*w) || !viewMay(v.Acq) || !within(*w, v.Acq) {
					t.Fatal("it is spoilt by itself", at, v)
				}
			}
		}
	}
}

// P13.2: each time of each of them by itself: as it is, one less, one more, below 0.
func TestMayByOneTime(t *testing.T) {
	is := 0
	for _, g := range append(right(), grounds()...) {
		for k := range parts {
			for i := range slots {
				v := g
				was := *slot(part(&v, k), i)
				for _, now := range []int{was, was - 1, was + 1, 0, 1, 5, -1, math.MaxInt, math.MinInt} {
					*slot(part(&v, k), i) = now
					if v.May() != viewsMay(v) {
						t.Errorf("%v: %v", v, v.May())
					}
					if v.May() {
						is++
					}
				}
			}
		}
	}
	if is < 1000 {
		t.Error("too few that may be:", is)
	}
}

// maps are functions of locations and times.
func maps() map[string]func(loc, at int) int {
	return map[string]func(loc, at int) int{
		"the same": func(loc, at int) int { return at },
		"greater":  func(loc, at int) int { return at + 1 + loc },
		"many":     func(loc, at int) int { return at * (loc + 3) },
		"less":     func(loc, at int) int { return at / 2 },
		"below 0":  func(loc, at int) int { return -3 - loc - at },
		"none":     func(loc, at int) int { return 0 },
		"locs":     func(loc, at int) int { return loc },
		"one":      func(loc, at int) int { return at * (loc & 1) },
		"great":    func(loc, at int) int { return math.MaxInt - loc },
	}
}

// P13.2: each time of each of them is what the function says of its location and it; the views stay as they were.
func TestMap(t *testing.T) {
	for name, f := range maps() {
		for _, v := range append(right(), grounds()...) {
			was, want := v, tview.Views{}
			for k := range parts {
				for i := range slots {
					*slot(part(&want, k), i) = f(i%api.MaxLocations, *slot(part(&v, k), i))
				}
			}
			if got := v.Map(f); got != want || v != was {
				t.Errorf("%s, %v: %v", name, was, got)
			}
		}
	}
}

// P13.2, by hand: ranks in place of times, another row of them for each location.
func TestMapByHand(t *testing.T) {
	ends := [api.MaxLocations][]int{{3, 6, 8}, {5, 6, 7, 9}, {11, 20, 27, 30}, {7, 30, 33, 47}}
	got := base().Map(func(loc, at int) int {
		n, is := slices.BinarySearch(ends[loc], at)
		if is {
			n++
		}
		return n
	})
	want := tview.Views{
		Cur: of(times{1, 1, 2, 3}, times{2, 4, 3, 3}),
		Acq: of(times{1, 3, 2, 3}, times{3, 4, 4, 4}),
		Rel: rels{
			of(times{1, 0, 0, 1}, times{1, 0, 0, 1}),
			of(times{0, 1, 0, 0}, times{0, 2, 0, 0}),
			of(times{0, 0, 1, 0}, times{1, 0, 1, 0}),
			of(times{0, 0, 0, 2}, times{0, 0, 0, 3}),
		},
	}
	if got != want {
		t.Error(got)
	}
	if got := base().Map(nil); got != (tview.Views{}) { // R1: nobody says anything of a time
		t.Error(got)
	}
}

// P13.2: of which locations and times the function is asked: of each time there is, with its own location, and of no other.
func TestMapAsks(t *testing.T) {
	for _, v := range append(right(), grounds()...) {
		want, got := map[[2]int]int{}, map[[2]int]int{}
		for k := range parts {
			for i := range slots {
				want[[2]int{i % api.MaxLocations, *slot(part(&v, k), i)}]++
			}
		}
		v.Map(func(loc, at int) int {
			got[[2]int{loc, at}]++
			return 0
		})
		for asked := range got {
			if want[asked] == 0 {
				t.Errorf("%v: asked of %v", v, asked)
			}
		}
		if len(got) != len(want) {
			t.Errorf("%v: asked of %v", v, got)
		}
	}
}

// P13.2, P13.3: a function that keeps which time is later, and 0, keeps whether they may be.
func TestMapKeepsMay(t *testing.T) {
	for _, v := range append(right(), grounds()...) {
		small := v.Map(func(loc, at int) int { return min(max(at, -100), 100) })
		if got := small.Map(func(loc, at int) int { return at * (loc + 3) }); got.May() != viewsMay(small) {
			t.Errorf("%v: %v", small, got)
		}
	}
}
