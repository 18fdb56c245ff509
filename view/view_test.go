package view_test

import (
	"math"
	"slices"
	"testing"

	"troth/api"
	"troth/view"
)

// times are one of each location.
type times = [api.MaxLocations]int

// slots is how many times a view has.
const slots = 2 * api.MaxLocations

// slot is one time of a view: the plns by their locations, then the rlxs.
func slot(v *view.View, i int) *int {
	if i < api.MaxLocations {
		return &v.Pln[i]
	}
	return &v.Rlx[i-api.MaxLocations]
}

// with is a view with another time at one slot.
func with(v view.View, i, t int) view.View {
	*slot(&v, i) = t
	return v
}

// mayBe tells it time by time.
func mayBe(v view.View) bool {
	for loc := range api.MaxLocations {
		if v.Pln[loc] < 0 || v.Rlx[loc] < 0 || v.Pln[loc] > v.Rlx[loc] {
			return false
		}
	}
	return true
}

// within tells it time by time.
func within(v, w view.View) bool {
	for i := range slots {
		if *slot(&v, i) > *slot(&w, i) {
			return false
		}
	}
	return true
}

// right are views that may be.
func right() []view.View {
	return []view.View{
		{},
		{Rlx: times{0, 5, 0, 0}},
		{Pln: times{0, 5, 0, 0}, Rlx: times{0, 5, 0, 0}},
		{Pln: times{1, 2, 3, 4}, Rlx: times{1, 2, 3, 4}},
		{Pln: times{0, 1, 2, 3}, Rlx: times{4, 3, 2, 3}},
		{Pln: times{4, 3, 2, 1}, Rlx: times{9, 8, 7, 6}},
		{Pln: times{0, 0, 0, 0}, Rlx: times{1, 1, 1, 1}},
		{Rlx: times{math.MaxInt, math.MaxInt, math.MaxInt, math.MaxInt}},
		{Pln: times{0, math.MaxInt, 7, 1}, Rlx: times{1, math.MaxInt, math.MaxInt, 1}},
		view.Flat(times{math.MaxInt, math.MaxInt, math.MaxInt, math.MaxInt}),
	}
}

// wrong are views that may not be.
func wrong() []view.View {
	return []view.View{
		{Pln: times{1, 0, 0, 0}},
		{Pln: times{0, 0, 0, 6}, Rlx: times{7, 7, 7, 5}},
		{Pln: times{0, -1, 0, 0}},
		{Rlx: times{0, 0, -1, 0}},
		{Pln: times{-1, -1, -1, -1}, Rlx: times{-1, -1, -1, -1}},
		{Pln: times{-2, 3, 1, 9}, Rlx: times{4, 3, -5, 0}},
		{Pln: times{math.MinInt, 0, 0, math.MaxInt}, Rlx: times{0, math.MinInt, math.MaxInt, 0}},
		view.Flat(times{math.MinInt, math.MinInt, math.MinInt, math.MinInt}),
		{Pln: times{math.MaxInt, math.MaxInt, math.MaxInt, math.MaxInt}, Rlx: times{math.MinInt, math.MinInt, math.MinInt, math.MinInt}},
	}
}

// P10.1 and P10.2, as the chapter's examples show them.
func TestExamples(t *testing.T) {
	if v := view.At(1, 5, false); v != (view.View{Rlx: times{0, 5, 0, 0}}) {
		t.Error(v)
	}
	if v := view.At(1, 5, true).Join(view.At(0, 2, false), view.At(1, 3, true)); v != (view.View{Pln: times{0, 5, 0, 0}, Rlx: times{2, 5, 0, 0}}) {
		t.Error(v)
	}
}

// P10.1: whether a view may be, by a pln and a rlx of one location, whatever is at the other ones.
func TestMayAtEachLocation(t *testing.T) {
	grounds := []view.View{{}, view.Flat(times{3, 3, 3, 3}), {Rlx: times{9, 1, 9, 1}}, {Pln: times{1, 2, 3, 4}, Rlx: times{5, 5, 5, 5}}}
	for _, c := range []struct {
		pln, rlx int
		may      bool
	}{
		{0, 0, true}, {0, 1, true}, {1, 1, true}, {4, 5, true}, {5, 5, true}, {0, math.MaxInt, true}, {math.MaxInt, math.MaxInt, true}, {math.MaxInt - 1, math.MaxInt, true},
		// a pln above its rlx, by one and by much
		{1, 0, false}, {6, 5, false}, {9, 1, false}, {math.MaxInt, 0, false}, {math.MaxInt, math.MaxInt - 1, false},
		// a time below 0, though no pln is above its rlx
		{-1, 0, false}, {-1, 5, false}, {-1, -1, false}, {-2, -1, false}, {math.MinInt, 0, false}, {math.MinInt, math.MaxInt, false}, {math.MinInt, math.MinInt, false}, {math.MinInt, -1, false},
		// a rlx below 0
		{0, -1, false}, {5, -1, false}, {-1, -2, false}, {0, math.MinInt, false}, {math.MaxInt, math.MinInt, false}, {-1, math.MinInt, false},
	} {
		for _, v := range grounds {
			for loc := range api.MaxLocations {
				v := with(with(v, loc, c.pln), api.MaxLocations+loc, c.rlx)
				if v.May() != c.may {
					t.Errorf("%v: %v", v, v.May())
				}
			}
		}
	}
}

// P10.1: whether a view may be, of views as a whole; a pln is held against its own rlx alone.
func TestMay(t *testing.T) {
	for _, v := range append(right(), view.View{Pln: times{5, 0, 0, 0}, Rlx: times{5, 1, 1, 1}}, view.View{Pln: times{0, 0, 0, 8}, Rlx: times{2, 1, 0, 8}}) {
		if !v.May() {
			t.Error(v)
		}
	}
	for _, v := range wrong() {
		if v.May() {
			t.Error(v)
		}
	}
}

// P10.1: of two views that are unlike by one time alone just one is within the other one.
func TestWithinByOneTime(t *testing.T) {
	grounds := append(append(wrong(), right()...), view.View{Pln: times{2, 4, 6, 8}, Rlx: times{3, 5, 7, 9}})
	for _, v := range grounds {
		for i := range slots {
			at := *slot(&v, i)
			for _, other := range []int{at - 1, at + 1, 0, -1, 1, math.MaxInt, math.MinInt} {
				w := with(v, i, other)
				if v.Within(w) != (at <= other) || w.Within(v) != (other <= at) {
					t.Errorf("%v, %v: %v, %v", v, w, v.Within(w), w.Within(v))
				}
			}
		}
	}
}

// P10.1: within one another both ways, one way, neither way.
func TestWithin(t *testing.T) {
	low := view.View{Pln: times{1, 2, 0, 4}, Rlx: times{1, 3, 5, 4}}
	for _, c := range []struct {
		v, w        view.View
		there, back bool
	}{
		{view.View{}, view.View{}, true, true},
		{low, low, true, true},
		{wrong()[5], wrong()[5], true, true},
		{view.View{}, low, true, false},
		{low, view.Flat(times{5, 5, 5, 5}), true, false},
		{low, view.Flat(low.Rlx), true, false},
		{view.Flat(low.Pln), low, true, false},
		{view.At(2, 7, false), view.At(2, 7, true), true, false},
		{view.At(2, 7, true), view.At(2, 8, true), true, false},
		// neither way: by plns alone, by rlxs alone, by a pln against a rlx, of one location and of two
		{view.View{Pln: times{1, 2, 0, 0}, Rlx: times{9, 9, 9, 9}}, view.View{Pln: times{2, 1, 0, 0}, Rlx: times{9, 9, 9, 9}}, false, false},
		{view.View{Rlx: times{0, 0, 1, 2}}, view.View{Rlx: times{0, 0, 2, 1}}, false, false},
		{view.View{Pln: times{0, 1, 0, 0}, Rlx: times{0, 1, 0, 0}}, view.View{Rlx: times{0, 2, 0, 0}}, false, false},
		{view.At(0, 1, true), view.At(3, 1, true), false, false},
		{view.At(0, 1, false), view.At(3, 1, false), false, false},
		{view.View{Pln: times{0, 0, 0, 1}, Rlx: times{0, 0, 0, 1}}, view.View{Rlx: times{1, 0, 0, 0}}, false, false},
		// with views that may not be
		{view.View{Pln: times{0, 3, 0, 0}}, view.Flat(times{0, 3, 0, 0}), true, false},
		{view.Flat(times{-1, -1, -1, -1}), view.View{}, true, false},
		{view.View{Rlx: times{0, 0, -1, 0}}, view.View{}, true, false},
		{view.View{Pln: times{-1, 0, 0, 0}}, view.View{Rlx: times{0, -1, 0, 0}}, false, false},
		{view.Flat(times{math.MinInt, math.MinInt, math.MinInt, math.MinInt}), view.Flat(times{math.MaxInt, math.MaxInt, math.MaxInt, math.MaxInt}), true, false},
		{view.View{Pln: times{math.MinInt, 0, 0, 0}}, view.View{Pln: times{math.MaxInt, 0, 0, 0}}, true, false},
		{view.View{Pln: times{math.MinInt, 1, 0, 0}}, view.View{Pln: times{math.MaxInt, 0, 0, 0}}, false, false},
	} {
		if there, back := c.v.Within(c.w), c.w.Within(c.v); there != c.there || back != c.back {
			t.Errorf("%v, %v: %v, %v", c.v, c.w, there, back)
		}
	}
}

// P10.1: a view joined with none, itself, one, many: of each time the latest one.
func TestJoin(t *testing.T) {
	a := view.View{Pln: times{1, 0, 3, 0}, Rlx: times{2, 5, 3, 0}}
	b := view.View{Pln: times{0, 4, 0, 0}, Rlx: times{9, 4, 1, 7}}
	c := view.View{Pln: times{2, 0, 2, 6}, Rlx: times{2, 0, 8, 6}}
	high := view.Flat(times{math.MaxInt, math.MaxInt, math.MaxInt, math.MaxInt})
	deep := view.Flat(times{math.MinInt, math.MinInt, math.MinInt, math.MinInt})
	for _, x := range []struct {
		v    view.View
		l    []view.View
		want view.View
	}{
		{view.View{}, nil, view.View{}},
		{a, nil, a},
		{a, []view.View{}, a},
		{a, []view.View{a}, a},
		{a, []view.View{a, a, a}, a},
		{a, []view.View{{}}, a},
		{view.View{}, []view.View{a}, a},
		{a, []view.View{b}, view.View{Pln: times{1, 4, 3, 0}, Rlx: times{9, 5, 3, 7}}},
		{a, []view.View{c}, view.View{Pln: times{2, 0, 3, 6}, Rlx: times{2, 5, 8, 6}}},
		{a, []view.View{b, c}, view.View{Pln: times{2, 4, 3, 6}, Rlx: times{9, 5, 8, 7}}},
		{a, []view.View{c, b, a, {}, c}, view.View{Pln: times{2, 4, 3, 6}, Rlx: times{9, 5, 8, 7}}},
		{a, []view.View{high}, high},
		{high, []view.View{a, b}, high},
		// with views that may not be: their times count all the same
		{view.View{}, []view.View{{Pln: times{0, 3, 0, 0}}}, view.View{Pln: times{0, 3, 0, 0}}},
		{view.View{Pln: times{0, 0, 9, 0}}, []view.View{a}, view.View{Pln: times{1, 0, 9, 0}, Rlx: times{2, 5, 3, 0}}},
		{view.View{}, []view.View{deep, view.Flat(times{-1, -2, -3, -4})}, view.View{}},
		{deep, nil, deep},
		{deep, []view.View{deep}, deep},
		{deep, []view.View{view.Flat(times{-1, -2, -3, -4})}, view.Flat(times{-1, -2, -3, -4})},
		{view.Flat(times{-1, -2, -3, -4}), []view.View{view.Flat(times{-2, -1, -4, -3}), deep}, view.Flat(times{-1, -1, -3, -3})},
		{view.View{Pln: times{math.MinInt, 1, 0, 0}}, []view.View{{Pln: times{math.MaxInt, 0, -1, 0}, Rlx: times{0, math.MinInt, 0, 0}}}, view.View{Pln: times{math.MaxInt, 1, 0, 0}}},
	} {
		if got := x.v.Join(x.l...); got != x.want {
			t.Errorf("%v, %v: %v", x.v, x.l, got)
		}
	}
}

// P10.1: the times that are joined come from their own slots, each one.
func TestJoinByOneTime(t *testing.T) {
	for _, v := range append(wrong(), right()...) {
		for i := range slots {
			for _, other := range []int{0, 1, -1, 6, math.MaxInt, math.MinInt} {
				w := with(v, i, other)
				want := with(v, i, max(*slot(&v, i), other))
				if got, round := v.Join(w), w.Join(v); got != want || round != want {
					t.Errorf("%v, %v: %v, %v", v, w, got, round)
				}
			}
		}
	}
}

// P10.1, R3: what is joined stays as it was, a slice that is handed as the many too, with the room behind its end.
func TestJoinLeavesWhatItIsHanded(t *testing.T) {
	room := append(right(), wrong()...)
	was := slices.Clone(room)
	v := room[4]
	got := v.Join(room[2:7]...)
	for i := range slots {
		*slot(&got, i) = -77
	}
	if v != was[4] || !slices.Equal(room, was) {
		t.Error(v, room)
	}
	first, second := v.Join(room[2:3]...), v.Join(room[5:6]...)
	if first != v.Join(was[2]) || second != v.Join(was[5]) || !slices.Equal(room, was) {
		t.Error(first, second, room)
	}
	room[5] = view.Flat(times{70, 70, 70, 70})
	if second != v.Join(was[5]) {
		t.Error("it hangs on what was handed in")
	}
}

// P10.2: a view that knows one time, or nothing.
func TestAt(t *testing.T) {
	locs := []int{math.MinInt, math.MinInt + 1, -api.MaxLocations, -2, -1, 0, 1, 2, 3, api.MaxLocations, api.MaxLocations + 1, 2 * api.MaxLocations, 8, 256, 1 << 32, 1<<32 + 1, math.MaxInt - 1, math.MaxInt}
	for _, loc := range locs {
		for _, time := range []int{math.MinInt, -1 << 32, -2, -1, 0, 1, 2, 5, 255, 256, 1 << 20, 1<<20 + 1, 1<<32 + 7, math.MaxInt} {
			var rlx, both view.View
			if loc >= 0 && loc < api.MaxLocations && time >= 0 {
				rlx = with(view.View{}, api.MaxLocations+loc, time)
				both = with(rlx, loc, time)
			}
			if got := view.At(loc, time, false); got != rlx {
				t.Errorf("At(%d, %d, false): %v", loc, time, got)
			}
			if got := view.At(loc, time, true); got != both {
				t.Errorf("At(%d, %d, true): %v", loc, time, got)
			}
		}
	}
	if v := view.At(api.MaxLocations-1, math.MaxInt, true); v != (view.View{Pln: times{0, 0, 0, math.MaxInt}, Rlx: times{0, 0, 0, math.MaxInt}}) {
		t.Error(v)
	}
}

// P10.2: both ways the same times, whatever they are.
func TestFlat(t *testing.T) {
	for _, l := range []times{
		{}, {1, 2, 3, 4}, {4, 3, 2, 1}, {0, 0, 0, 1}, {1, 0, 0, 0}, {0, 7, 0, 7}, {5, 5, 5, 5},
		{-1, 0, 0, 0}, {0, -1, -2, -3}, {-1, -1, -1, -1}, {3, -3, 0, 1}, {math.MinInt, math.MaxInt, 0, -1}, {math.MaxInt, math.MaxInt - 1, math.MinInt + 1, math.MinInt},
	} {
		was := l
		v := view.Flat(l)
		if v.Pln != was || v.Rlx != was || l != was {
			t.Errorf("%v: %v", was, v)
		}
		v.Pln[0], v.Rlx[1] = 70, 71 // a view shares nothing with the times that it is made of, nor its ways with one another
		if l != was || v.Rlx[0] != was[0] || v.Pln[1] != was[1] {
			t.Errorf("%v: %v", was, v)
		}
	}
}

// P10.2: of which locations and times the function is asked: once of each time, with its own location.
func TestMapAsks(t *testing.T) {
	for _, v := range append(append(right(), wrong()...), view.View{Pln: times{10, 11, 12, 13}, Rlx: times{20, 21, 22, 23}}) {
		want, got := map[[2]int]int{}, map[[2]int]int{}
		for i := range slots {
			want[[2]int{i % api.MaxLocations, *slot(&v, i)}]++
		}
		v.Map(func(loc, at int) int {
			got[[2]int{loc, at}]++
			return 0
		})
		for asked, n := range got {
			if want[asked] != n {
				t.Errorf("%v: of %v %d times", v, asked, n)
			}
		}
		if len(got) != len(want) {
			t.Errorf("%v: asked of %v", v, got)
		}
	}
}

// P10.2: each time is what the function says, for pln and for rlx alike, and the view itself stays as it was.
func TestMap(t *testing.T) {
	for name, f := range map[string]func(loc, at int) int{
		"the same": func(loc, at int) int { return at },
		"greater":  func(loc, at int) int { return at + 1 + loc },
		"less":     func(loc, at int) int { return at / 2 },
		"below 0":  func(loc, at int) int { return -3 - loc },
		"turned":   func(loc, at int) int { return -at },
		"none":     func(loc, at int) int { return 0 },
		"locs":     func(loc, at int) int { return loc },
		"great":    func(loc, at int) int { return math.MaxInt - loc },
		"deep":     func(loc, at int) int { return math.MinInt + loc },
		"many":     func(loc, at int) int { return at * (loc + 3) },
		"one":      func(loc, at int) int { return at * (loc & 1) },
	} {
		for _, v := range append(right(), wrong()...) {
			was, want := v, view.View{}
			for i := range slots {
				want = with(want, i, f(i%api.MaxLocations, *slot(&v, i)))
			}
			if got := v.Map(f); got != want || v != was {
				t.Errorf("%s, %v: %v", name, was, got)
			}
		}
	}
}

// P10.2, by hand: pln and rlx go by the same function, each location by its own times.
func TestMapByHand(t *testing.T) {
	v := view.View{Pln: times{0, 2, 4, 5}, Rlx: times{5, 2, 7, 5}}
	ranks := map[int]int{0: 0, 2: 1, 4: 2, 5: 3, 7: 4}
	if got := v.Map(func(loc, at int) int { return ranks[at] }); got != (view.View{Pln: times{0, 1, 2, 3}, Rlx: times{3, 1, 4, 3}}) {
		t.Error(got)
	}
	if got := v.Map(func(loc, at int) int { return at - 10*loc }); got != (view.View{Pln: times{0, -8, -16, -25}, Rlx: times{5, -8, -13, -25}}) {
		t.Error(got)
	}
	if got := v.Map(func(loc, at int) int { return at }).Map(nil); got != (view.View{}) { // R1: nobody says anything of a time
		t.Error(got)
	}
}

// Views are told apart by ==: alike just if all times are.
func TestCompared(t *testing.T) {
	all := map[view.View]int{}
	l := append(right(), wrong()...)
	for i, v := range l {
		all[v] = i
	}
	for i, v := range l {
		if same := (view.View{Pln: v.Pln, Rlx: v.Rlx}); same != v || all[same] != i {
			t.Error(i, v)
		}
		for at := range slots {
			if with(v, at, *slot(&v, at)+1) == v {
				t.Error(v, at)
			}
		}
	}
}

// R2: what is answered hangs on the arguments alone.
func TestNothingIsKept(t *testing.T) {
	l := append(right(), wrong()...)
	told := func() (answers []any) {
		for i, v := range l {
			w := l[(i*7+3)%len(l)]
			mapped := v.Map(func(loc, at int) int { return at ^ loc ^ i })
			answers = append(answers, v.May(), v.Within(w), w.Within(v), v.Join(w, l[0]), mapped, view.At(i-2, i, i%2 == 0), view.Flat(v.Pln))
		}
		return answers
	}
	first := told()
	for i, x := range told() {
		if x != first[i] {
			t.Error(i, x, first[i])
		}
	}
}
