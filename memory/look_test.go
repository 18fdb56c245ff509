package memory_test

import (
	"math"
	"slices"
	"testing"

	"troth/api"
	"troth/memory"
	"troth/span"
	"troth/view"
)

// P11.3: how many locations, also behind acts and behind errors.
func TestLocs(t *testing.T) {
	for locs := 1; locs <= api.MaxLocations; locs++ {
		m := begun(t, make([]uint64, locs)...)
		more := with(t, m, kept(locs-1, 1, 2, 0), promise(0, 3, 4, 1, 1))
		none, _ := m.Add(message(locs, 1, 2, 1))
		free, _ := more.Cancel(locs-1, 2, 0)
		done, _ := more.Fulfil(0, 4, 1)
		for _, m := range []memory.Memory{m, more, none, free, done} {
			if m.Locs() != locs {
				t.Error(locs, m.Locs())
			}
		}
	}
}

// P11.3: what is at each location, in order; of none nothing.
func TestList(t *testing.T) {
	m := cross(t)
	for loc, want := range map[int][]memory.Item{
		0: {first(0, 7), promise(0, 2, 3, 10, 0), kept(0, 3, 5, 0), message(0, 5, 6, 11), promise(0, 8, 9, 12, 1), kept(0, 10, 12, nobody)},
		1: {first(1, 8), kept(1, 1, 2, 1), promise(1, 2, 4, 13, 0), message(1, 4, 5, 14), kept(1, 6, 7, 3), promise(1, 9, 10, 15, 3)},
		2: {}, 3: {}, api.MaxLocations: {}, -1: {}, math.MinInt: {}, math.MaxInt: {},
	} {
		if l := m.List(loc); !slices.Equal(l, want) {
			t.Errorf("%d: %v, not %v", loc, l, want)
		}
	}
}

// P11.3: the message that ends at a time, a promise too; not a reservation, nor where one begins, or within one, or beyond.
func TestAt(t *testing.T) {
	m := cross(t)
	messages := []memory.Item{
		first(0, 7), promise(0, 2, 3, 10, 0), message(0, 5, 6, 11), promise(0, 8, 9, 12, 1),
		first(1, 8), promise(1, 2, 4, 13, 0), message(1, 4, 5, 14), promise(1, 9, 10, 15, 3),
	}
	times := []int{math.MinInt, span.MaxTime, span.MaxTime + 1, math.MaxInt}
	for to := -3; to <= 15; to++ {
		times = append(times, to)
	}
	for loc := -2; loc <= api.MaxLocations+1; loc++ {
		for _, to := range times {
			i := slices.IndexFunc(messages, func(x memory.Item) bool { return x.Loc == loc && imag(x.S) == float64(to) })
			x, is := m.At(loc, to)
			if is != (i >= 0) || is && x != messages[i] || !is && x != (memory.Item{}) {
				t.Error(loc, to, x, is)
			}
		}
	}
	for _, loc := range []int{math.MinInt, math.MaxInt} {
		if x, is := m.At(loc, 0); is || x != (memory.Item{}) {
			t.Error(loc, x)
		}
	}
}

// P11.3: the last message, a promise or not, though reservations stand behind it; of no location none.
func TestLast(t *testing.T) {
	m := begun(t, 7, 8, 9)
	for _, c := range []struct {
		add, want memory.Item
	}{
		{kept(1, 20, 21, 0), first(1, 8)},
		{message(1, 10, 11, 1), message(1, 10, 11, 1)},
		{kept(1, 11, 12, nobody), message(1, 10, 11, 1)},
		{message(1, 2, 3, 2), message(1, 10, 11, 1)},
		{promise(1, 12, 13, 3, 2), promise(1, 12, 13, 3, 2)},
		{message(1, 13, 20, 0), message(1, 13, 20, 0)},
		{promise(1, 30, 31, 5, 0), promise(1, 30, 31, 5, 0)},
		{kept(1, 40, span.MaxTime, 3), promise(1, 30, 31, 5, 0)},
	} {
		m = with(t, m, c.add)
		for loc, want := range []memory.Item{first(0, 7), c.want, first(2, 9)} {
			if x, is := m.Last(loc); !is || x != want {
				t.Error(c.add, loc, x, is)
			}
		}
	}
	done, _ := m.Fulfil(1, 31, 0)
	if x, is := done.Last(1); !is || x != message(1, 30, 31, 5) {
		t.Error(x, is)
	}
	for _, loc := range []int{math.MinInt, -1, 3, api.MaxLocations, math.MaxInt} {
		if x, is := m.Last(loc); is || x != (memory.Item{}) {
			t.Error(loc, x, is)
		}
	}
}

// P11.3: all of an owner, promises and reservations, location by location, in order.
func TestOwned(t *testing.T) {
	m := cross(t)
	for owner, want := range map[int][]memory.Item{
		0:      {promise(0, 2, 3, 10, 0), kept(0, 3, 5, 0), promise(1, 2, 4, 13, 0)},
		1:      {promise(0, 8, 9, 12, 1), kept(1, 1, 2, 1)},
		2:      {},
		3:      {kept(1, 6, 7, 3), promise(1, 9, 10, 15, 3)},
		nobody: {first(0, 7), message(0, 5, 6, 11), kept(0, 10, 12, nobody), first(1, 8), message(1, 4, 5, 14)},
		-2:     {}, api.MaxThreads: {}, math.MinInt: {}, math.MaxInt: {},
	} {
		if l := m.Owned(owner); !slices.Equal(l, want) {
			t.Errorf("%d: %v, not %v", owner, l, want)
		}
	}
	done, _ := m.Fulfil(0, 3, 0)
	free, _ := done.Cancel(0, 5, 0)
	if l := free.Owned(0); !slices.Equal(l, []memory.Item{promise(1, 2, 4, 13, 0)}) {
		t.Error(l)
	}
	if l := free.Owned(nobody); !slices.Equal(l, []memory.Item{first(0, 7), message(0, 2, 3, 10), message(0, 5, 6, 11), kept(0, 10, 12, nobody), first(1, 8), message(1, 4, 5, 14)}) {
		t.Error(l)
	}
}

// P11.3: over all locations that there may be, of one owner, put in no order.
func TestOwnedOverAllLocations(t *testing.T) {
	m := begun(t, 1, 2, 3, 4)
	var want []memory.Item
	for _, loc := range []int{2, 3, 0, 1} {
		m = with(t, m, kept(loc, 5, 6, 2), promise(loc, 1, 2, 9, 2), promise(loc, 3, 4, 8, 1))
	}
	for loc := range api.MaxLocations {
		want = append(want, promise(loc, 1, 2, 9, 2), kept(loc, 5, 6, 2))
	}
	if l := m.Owned(2); !slices.Equal(l, want) {
		t.Error(l)
	}
}

// P11.4: each time by itself, as pln and as rlx: just those at which messages of its location end, and elsewhere 0.
func TestClosedAtEachTime(t *testing.T) {
	m := cross(t)
	ends := [api.MaxLocations][]int{{0, 3, 6, 9}, {0, 4, 5, 10}, {0}, {0}}
	times := []int{math.MinInt, math.MaxInt, span.MaxTime}
	for at := -3; at <= 15; at++ {
		times = append(times, at)
	}
	for loc := range api.MaxLocations {
		for _, at := range times {
			want := slices.Contains(ends[loc], at)
			var pln, rlx view.View
			pln.Pln[loc], rlx.Rlx[loc] = at, at
			both := pln.Join(rlx)
			both.Pln[loc], both.Rlx[loc] = at, at
			for _, v := range []view.View{pln, rlx, both} {
				if m.Closed(v) != want {
					t.Error(v, m.Closed(v))
				}
			}
		}
	}
}

// P11.4: all times together; one that is no message's is enough.
func TestClosed(t *testing.T) {
	m := cross(t)
	for _, c := range []struct {
		v    view.View
		want bool
	}{
		{view.View{}, true},
		{view.Flat(times{3, 4}), true}, {view.Flat(times{9, 10}), true}, {view.View{Pln: times{3, 0}, Rlx: times{6, 5}}, true}, {view.View{Rlx: times{6, 10}}, true},
		// it is not asked whether the view may be
		{view.View{Pln: times{9, 5}, Rlx: times{3, 4}}, true}, {view.View{Pln: times{6}}, true},
		// one time where a reservation ends, or nothing, or something of the other location
		{view.View{Pln: times{3, 4}, Rlx: times{5, 4}}, false}, {view.View{Pln: times{3, 4}, Rlx: times{3, 7}}, false}, {view.Flat(times{12, 4}), false},
		{view.View{Pln: times{0, 3}, Rlx: times{3, 4}}, false}, {view.View{Pln: times{4, 4}, Rlx: times{6, 4}}, false}, {view.Flat(times{10, 9}), false},
		// where items begin, and within them
		{view.Flat(times{8, 4}), false}, {view.Flat(times{4, 4}), false}, {view.Flat(times{3, 9}), false},
		// of a location that there is not
		{view.Flat(times{3, 4, 3}), false}, {view.View{Rlx: times{3, 4, 0, 1}}, false}, {view.View{Rlx: times{0, 0, 5}}, false}, {view.View{Pln: times{0, 0, 0, 9}}, false},
		{view.Flat(times{-1, 0}), false}, {view.Flat(times{0, 0, -1}), false},
	} {
		if m.Closed(c.v) != c.want {
			t.Error(c.v, m.Closed(c.v))
		}
	}
}

// P11.4: what is fulfilled keeps a view closed, what is cancelled never closed one.
func TestClosedBehindActs(t *testing.T) {
	m := cross(t)
	promised, reserved := view.At(0, 3, true), view.At(0, 5, true)
	done, _ := m.Fulfil(0, 3, 0)
	free, _ := done.Cancel(0, 5, 0)
	taken := with(t, free, message(0, 4, 5, 1))
	for _, c := range []struct {
		m    memory.Memory
		v    view.View
		want bool
	}{
		{m, promised, true}, {done, promised, true}, {taken, promised, true}, {m, reserved, false}, {free, reserved, false}, {taken, reserved, true}, {m, reserved, false},
	} {
		if c.m.Closed(c.v) != c.want {
			t.Error(c.v, told(c.m), !c.want)
		}
	}
}

// P11.1 to P11.4: a memory of no locations, as Begin answers it beside an error, has nothing, and takes nothing.
func TestMemoryOfNone(t *testing.T) {
	var m memory.Memory
	holds(t, "none", m)
	for loc := -1; loc <= api.MaxLocations; loc++ {
		for owner := -2; owner <= api.MaxThreads; owner++ {
			got, err := m.Add(promise(0, 1, 2, 3, owner))
			refused(t, loc, m, got, err, api.ErrArg)
			got, err = m.Fulfil(loc, 0, owner)
			refused(t, loc, m, got, err, api.ErrArg)
			got, err = m.Cancel(loc, 0, owner)
			refused(t, loc, m, got, err, api.ErrArg)
			if l := m.Owned(owner); len(l) != 0 {
				t.Error(owner, l)
			}
		}
		x, is := m.At(loc, 0)
		y, was := m.Last(loc)
		if is || was || x != (memory.Item{}) || y != (memory.Item{}) {
			t.Error(loc, x, is, y, was)
		}
	}
	if !m.Closed(view.View{}) || m.Closed(view.At(0, 1, false)) || m.Closed(view.At(3, 1, true)) {
		t.Error("closed")
	}
}

// R3: what is handed in may be written to, and what was handed out too, and no memory shows it.
func TestNothingIsShared(t *testing.T) {
	start := []uint64{7, 8, 9}[:2:3]
	m, _ := memory.Begin(start)
	start[0], start[1] = 1, 1
	holds(t, "start", m, []memory.Item{first(0, 7)}, []memory.Item{first(1, 8)})
	if start[:3][2] != 9 {
		t.Error(start[:3])
	}
	m = cross(t)
	for _, list := range []func() []memory.Item{
		func() []memory.Item { return m.List(0) }, func() []memory.Item { return m.List(1) },
		func() []memory.Item { return m.Owned(0) }, func() []memory.Item { return m.Owned(nobody) },
	} {
		want, earlier := list(), list()
		got := list()
		for i := range got[:cap(got)] {
			got[:cap(got)][i] = memory.Item{Loc: 9, S: in(8, 7), N: 6, Res: true, Owner: 5}
		}
		_ = append(got[:1], got...)
		if !slices.Equal(earlier, want) || !slices.Equal(list(), want) {
			t.Error(earlier, list(), want)
		}
	}
	holds(t, "cross", m, cross(t).List(0), cross(t).List(1))
}

// R2: whatever was asked before, the answers are the same.
func TestNothingIsKept(t *testing.T) {
	m := cross(t)
	ask := func() (l []memory.Item) {
		for loc := range 2 {
			l = append(l, m.List(loc)...)
			x, _ := m.Last(loc)
			l = append(l, x)
			for to := range 12 {
				x, _ := m.At(loc, to)
				l = append(l, x)
			}
		}
		for owner := nobody; owner < api.MaxThreads; owner++ {
			l = append(l, m.Owned(owner)...)
		}
		return l
	}
	want := ask()
	for range 3 {
		m.Add(message(0, 20, 21, 1))
		m.Fulfil(0, 3, 0)
		m.Cancel(0, 5, 0)
		m.Closed(view.Flat(times{1, 2, 3, 4}))
		if got := ask(); !slices.Equal(got, want) {
			t.Error(got)
		}
	}
}
