package view_test

import (
	"math/rand"
	"testing"

	"troth/api"
	"troth/view"
)

// all are all views with some few times at two locations, and 0 at the other ones.
func all(a, b int, few ...int) (l []view.View) {
	for _, p := range few {
		for _, q := range few {
			for _, r := range few {
				for _, s := range few {
					var v view.View
					v.Pln[a], v.Rlx[a], v.Pln[b], v.Rlx[b] = p, q, r, s
					l = append(l, v)
				}
			}
		}
	}
	return l
}

// pairs are all two locations.
func pairs() (l [][2]int) {
	for b := range api.MaxLocations {
		for a := range b {
			l = append(l, [2]int{a, b})
		}
	}
	return l
}

// chosen are views by chance: many times are alike, so that often one view is within another one.
func chosen(r *rand.Rand, count int) (l []view.View) {
	for range count {
		var v view.View
		from, most := r.Intn(3)-1, 1+r.Intn(4)
		for i := range slots {
			*slot(&v, i) = from + r.Intn(most)
		}
		if r.Intn(2) == 0 {
			v = raised(v)
		}
		l = append(l, v)
	}
	return l
}

// raised is a view that may be: no time below 0, and each rlx as late as its pln at least.
func raised(v view.View) view.View {
	for loc := range api.MaxLocations {
		v.Pln[loc] = max(v.Pln[loc], 0)
		v.Rlx[loc] = max(v.Rlx[loc], v.Pln[loc])
	}
	return v
}

// small are rows of views with no great times.
func small() [][]view.View {
	l := [][]view.View{chosen(rand.New(rand.NewSource(10)), 120)}
	for _, p := range pairs() {
		l = append(l, all(p[0], p[1], 0, 1, 2), all(p[0], p[1], -1, 0, 1))
	}
	return l
}

// sets are rows of views, of which any two are held against one another.
func sets() [][]view.View { return append(small(), append(right(), wrong()...)) }

// P10.1: whether views may be, and are within one another, told time by time.
func TestByTimes(t *testing.T) {
	for _, l := range sets() {
		for _, v := range l {
			if v.May() != mayBe(v) {
				t.Error(v, v.May())
			}
			for _, w := range l {
				if v.Within(w) != within(v, w) {
					t.Error(v, w, v.Within(w))
				}
			}
		}
	}
}

// P10.3: both are within what they are joined to, and it is within whatever both are within.
func TestJoinIsLeast(t *testing.T) {
	for _, l := range sets() {
		for i, a := range l {
			for _, b := range l[i:] {
				j := a.Join(b)
				if !within(a, j) || !within(b, j) || !a.Within(j) || !b.Within(j) {
					t.Fatal(a, b, j)
				}
				for _, c := range l {
					if both := within(a, c) && within(b, c); both != within(j, c) || both != j.Within(c) {
						t.Fatal(a, b, c, j)
					}
				}
			}
		}
	}
}

// P10.3: two views joined know no order, and are the same again and again.
func TestJoinOfTwo(t *testing.T) {
	for _, l := range sets() {
		for _, a := range l {
			for _, b := range l {
				j := a.Join(b)
				if b.Join(a) != j || a.Join(b) != j || a.Join(a) != a || a.Join(b, b) != j || a.Join(b, a) != j || j.Join(a) != j || j.Join(b) != j || j.Join(j) != j {
					t.Fatal(a, b, j)
				}
				if (j == b) != a.Within(b) {
					t.Fatal(a, b, j)
				}
			}
		}
	}
}

// P10.3: many views joined are the same in any order, at once or one by one.
func TestJoinOfMany(t *testing.T) {
	r := rand.New(rand.NewSource(103))
	for n := range 12 {
		for range 300 {
			l := chosen(r, n+1)
			want := l[0]
			for _, v := range l[1:] {
				want = want.Join(v)
			}
			for range 4 {
				r.Shuffle(len(l), func(i, k int) { l[i], l[k] = l[k], l[i] })
				cut := 1 + r.Intn(len(l))
				if l[0].Join(l[1:]...) != want || l[0].Join(l...) != want || l[0].Join(l[1:cut]...).Join(l[cut:]...) != want {
					t.Fatal(l, want)
				}
			}
			for i := range slots {
				if !has(l, i, *slot(&want, i)) {
					t.Fatal("a time of none of them", l, want)
				}
			}
		}
	}
}

// has tells whether one of some views has a time at a slot.
func has(l []view.View, i, at int) bool {
	for _, v := range l {
		if *slot(&v, i) == at {
			return true
		}
	}
	return false
}

// P10.3: views that may be are joined to one that may be.
func TestJoinMay(t *testing.T) {
	count := 0
	for _, l := range sets() {
		for _, a := range l {
			for _, b := range l {
				if a.May() && b.May() {
					count++
					if !a.Join(b).May() || !mayBe(a.Join(b, a)) {
						t.Fatal(a, b)
					}
				}
			}
		}
	}
	if count < 10000 {
		t.Error("too few that may be:", count)
	}
	r := rand.New(rand.NewSource(1031))
	for range 2000 {
		l := chosen(r, 6)
		for i := range l {
			l[i] = raised(l[i])
		}
		if !l[0].May() || !l[0].Join(l[1:]...).May() {
			t.Fatal(l)
		}
	}
}

// P10.2: what is made may be, if no time of it is below 0.
func TestMadeMayBe(t *testing.T) {
	for loc := range api.MaxLocations {
		for at := range 3 {
			for _, pln := range []bool{false, true} {
				v := view.At(loc, at, pln)
				if !v.May() || !v.Within(view.At(loc, at, true)) || v.Within(view.At(loc, at-1, true)) != (at == 0) {
					t.Error(v)
				}
			}
		}
	}
	for _, l := range sets() {
		for _, v := range l {
			if view.Flat(v.Rlx).May() != (min(v.Rlx[0], v.Rlx[1], v.Rlx[2], v.Rlx[3]) >= 0) {
				t.Error(v)
			}
		}
	}
}

// P10.2: a function that keeps what is below what, and below 0, keeps what may be, and what is within what.
func TestMapKeeps(t *testing.T) {
	for _, l := range small() {
		for i, v := range l {
			w := l[(i*31+7)%len(l)]
			f := func(loc, at int) int { return at * (3 + loc) }
			x, y := v.Map(f), w.Map(f)
			if x.May() != v.May() || x.Within(y) != v.Within(w) || x.Join(y) != v.Join(w).Map(f) {
				t.Error(v, w, x, y)
			}
		}
	}
}
