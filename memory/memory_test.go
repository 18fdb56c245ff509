package memory_test

import (
	"fmt"
	"math"
	"slices"
	"testing"

	"troth/api"
	"troth/memory"
	"troth/span"
	"troth/view"
)

// nobody owns what is no thread's.
const nobody = -1

// times are one of each location.
type times = [api.MaxLocations]int

// in is a span that a test knows to be one.
func in(from, to int) span.Span { return span.Span(complex(float64(from), float64(to))) }

// message is one of nobody, with a view that knows of it.
func message(loc, from, to int, n uint64) memory.Item {
	return memory.Item{Loc: loc, S: in(from, to), N: n, V: view.At(loc, to, true), Owner: nobody}
}

// promise is a message of a thread.
func promise(loc, from, to int, n uint64, owner int) memory.Item {
	x := message(loc, from, to, n)
	x.Owner = owner
	return x
}

// kept is a reservation.
func kept(loc, from, to, owner int) memory.Item {
	return memory.Item{Loc: loc, S: in(from, to), Res: true, Owner: owner}
}

// first is what is at a location at first.
func first(loc int, n uint64) memory.Item { return memory.Item{Loc: loc, N: n, Owner: nobody} }

// begun is a memory in which each location has one message.
func begun(t *testing.T, start ...uint64) memory.Memory {
	t.Helper()
	m, err := memory.Begin(start)
	if err != api.OK {
		t.Fatal(start, err)
	}
	return m
}

// with is the memory with more.
func with(t *testing.T, m memory.Memory, l ...memory.Item) memory.Memory {
	t.Helper()
	for _, x := range l {
		var err api.Errno
		if m, err = m.Add(x); err != api.OK {
			t.Fatal(x, err)
		}
	}
	return m
}

// told are all lists of a memory, with those on either side of its locations.
func told(m memory.Memory) (l [][]memory.Item) {
	for loc := -1; loc <= api.MaxLocations; loc++ {
		l = append(l, m.List(loc))
	}
	return l
}

// alike tells whether the lists of two memories are the same.
func alike(a, b [][]memory.Item) bool { return slices.EqualFunc(a, b, slices.Equal) }

// holds tells of a memory how many locations it has, and what is at each.
func holds(t *testing.T, what any, m memory.Memory, want ...[]memory.Item) {
	t.Helper()
	lists := make([][]memory.Item, api.MaxLocations+2)
	copy(lists[1:], want)
	if m.Locs() != len(want) || !alike(told(m), lists) {
		t.Errorf("%v: %d locations, %v\nand not %d, %v", what, m.Locs(), told(m), len(want), lists)
	}
}

// refused tells whether a memory came back as it was, with the error.
func refused(t *testing.T, what any, m, got memory.Memory, err, want api.Errno) {
	t.Helper()
	if err != want || got.Locs() != m.Locs() || !alike(told(got), told(m)) {
		t.Errorf("%v: %v, not %v, %v", what, err, want, told(got))
	}
}

// cross is a memory of two locations, with one item of each kind and owner.
func cross(t *testing.T) memory.Memory {
	return with(t, begun(t, 7, 8),
		promise(0, 2, 3, 10, 0), kept(0, 3, 5, 0), message(0, 5, 6, 11), promise(0, 8, 9, 12, 1), kept(0, 10, 12, nobody),
		kept(1, 1, 2, 1), promise(1, 2, 4, 13, 0), message(1, 4, 5, 14), kept(1, 6, 7, 3), promise(1, 9, 10, 15, 3))
}

// P11.1 and P11.2, as the chapter's examples show them.
func TestExamples(t *testing.T) {
	m := begun(t, 7)
	one, err := m.Add(memory.Item{S: in(0, 1), N: 5, Owner: nobody})
	if err != api.OK {
		t.Error(err)
	}
	got, err := one.Add(memory.Item{S: in(0, 2), N: 6, Owner: nobody})
	refused(t, "over it", one, got, err, api.ErrState)
	held, err := m.Add(kept(0, 2, 3, 1))
	if err != api.OK {
		t.Error(err)
	}
	got, err = held.Cancel(0, 3, 0)
	refused(t, "another thread's", held, got, err, api.ErrNone)
	got, err = held.Cancel(0, 3, 1)
	if err != api.OK {
		t.Error(err)
	}
	holds(t, "cancelled", got, []memory.Item{first(0, 7)})
}

// P11.1: each location has its starting number, at the span of both 0, and nothing else.
func TestBegin(t *testing.T) {
	for _, start := range [][]uint64{{0}, {7}, {math.MaxUint64}, {1, 2}, {3, 0, 3}, {9, 8, 7, 6}, {0, 0, 0, math.MaxUint64}} {
		m, err := memory.Begin(start)
		var want [][]memory.Item
		for loc, n := range start {
			want = append(want, []memory.Item{{Loc: loc, S: 0, N: n, V: view.View{}, Res: false, Owner: -1}})
		}
		if err != api.OK {
			t.Error(start, err)
		}
		holds(t, start, m, want...)
	}
}

// P11.1: no memory of no locations, nor of more than there may be.
func TestBeginOfTooFewAndTooMany(t *testing.T) {
	for _, start := range [][]uint64{nil, {}, {1, 2, 3, 4, 5}, make([]uint64, 6), make([]uint64, 100)} {
		m, err := memory.Begin(start)
		if err != api.ErrArg {
			t.Error(start, err)
		}
		holds(t, start, m)
	}
}

// P11.1: what is added stands at its location alone, as it was given.
func TestAddAtEachLocation(t *testing.T) {
	for locs := 1; locs <= api.MaxLocations; locs++ {
		for loc := range locs {
			for _, x := range []memory.Item{message(loc, 1, 3, 50), promise(loc, 0, 9, 51, 2), kept(loc, 4, 5, 1), kept(loc, 4, 5, nobody)} {
				m, err := begun(t, []uint64{4, 3, 2, 1}[:locs]...).Add(x)
				if err != api.OK {
					t.Error(locs, x, err)
				}
				var want [][]memory.Item
				for at := range locs {
					want = append(want, []memory.Item{first(at, uint64(4-at))})
				}
				want[loc] = append(want[loc], x)
				holds(t, x, m, want...)
			}
		}
	}
}

// P11.1: items stand in the order of their spans, in whatever order they come.
func TestAddInOrder(t *testing.T) {
	l := []memory.Item{first(0, 7), message(0, 2, 4, 1), kept(0, 6, 8, 2), promise(0, 9, 12, 3, 1)}
	for _, order := range [][]int{{1, 2, 3}, {1, 3, 2}, {2, 1, 3}, {2, 3, 1}, {3, 1, 2}, {3, 2, 1}} {
		m := begun(t, 7)
		for _, i := range order {
			m = with(t, m, l[i])
		}
		holds(t, order, m, l)
	}
}

// P11.1: an item has room ahead of all, between two, and behind all, also where it touches others; not over one, by a single time even.
func TestAddWhereThereIsRoom(t *testing.T) {
	m := with(t, begun(t, 7), message(0, 2, 4, 1), kept(0, 6, 8, 2), promise(0, 8, 9, 3, 1))
	was := m.List(0)
	for _, c := range []struct {
		from, to, at int // at: its place in the list, or 0 if it has no room
	}{
		// ahead of all but the first one
		{0, 1, 1}, {1, 2, 1}, {0, 2, 1},
		// between two, touching none, either, both
		{4, 5, 2}, {5, 6, 2}, {4, 6, 2},
		// behind all
		{9, 10, 4}, {10, 11, 4}, {9, span.MaxTime, 4}, {span.MaxTime - 1, span.MaxTime, 4},
		// over one by a single time, at its end, at its beginning
		{3, 5, 0}, {3, 6, 0}, {1, 3, 0}, {0, 3, 0}, {7, 9, 0}, {8, 10, 0}, {5, 7, 0}, {4, 7, 0},
		// within one
		{2, 3, 0}, {3, 4, 0}, {6, 7, 0}, {7, 8, 0},
		// the same again, and what begins or ends as one does
		{2, 4, 0}, {6, 8, 0}, {8, 9, 0}, {2, 5, 0}, {1, 4, 0}, {8, 11, 0},
		// over one and more, up to all
		{1, 5, 0}, {5, 9, 0}, {3, 7, 0}, {4, 9, 0}, {0, 8, 0}, {0, 20, 0}, {0, span.MaxTime, 0},
	} {
		for _, x := range []memory.Item{message(0, c.from, c.to, 9), promise(0, c.from, c.to, 9, 0), promise(0, c.from, c.to, 9, 1), kept(0, c.from, c.to, 3), kept(0, c.from, c.to, 2), kept(0, c.from, c.to, nobody)} {
			got, err := m.Add(x)
			if c.at == 0 {
				refused(t, x, m, got, err, api.ErrState)
				continue
			}
			if err != api.OK {
				t.Error(x, err)
			}
			holds(t, x, got, slices.Insert(slices.Clone(was), c.at, x))
		}
	}
}

// P11.1: no item has room where it stands already, but one like it at another location has.
func TestAddAgain(t *testing.T) {
	m := begun(t, 1, 2)
	for _, x := range []memory.Item{message(0, 0, 1, 5), promise(0, 1, 2, 6, 0), kept(0, 2, 3, 0), kept(0, 3, 4, nobody)} {
		m = with(t, m, x)
		got, err := m.Add(x)
		refused(t, x, m, got, err, api.ErrState)
	}
	for _, x := range m.List(0)[1:] {
		x.Loc = 1
		m = with(t, m, x)
	}
	if len(m.List(0)) != 5 || len(m.List(1)) != 5 {
		t.Error(told(m))
	}
}

// P11.1: a location that there is not has no room.
func TestAddAtNoLocation(t *testing.T) {
	for locs := 1; locs <= api.MaxLocations; locs++ {
		m := begun(t, make([]uint64, locs)...)
		for _, loc := range []int{math.MinInt, -2, -1, locs, locs + 1, api.MaxLocations, api.MaxLocations + 1, math.MaxInt} {
			for _, x := range []memory.Item{{Loc: loc, S: in(1, 2), Owner: nobody}, {Loc: loc, S: in(1, 2), Owner: 0}, kept(loc, 1, 2, 1)} {
				got, err := m.Add(x)
				refused(t, x, m, got, err, api.ErrArg)
			}
		}
	}
}

// P11.1: owners are nobody and as many threads as there may be.
func TestAddOfOwners(t *testing.T) {
	m := begun(t, 1)
	for owner := -3; owner <= api.MaxThreads+2; owner++ {
		for _, x := range []memory.Item{promise(0, 1, 2, 5, owner), kept(0, 1, 2, owner)} {
			got, err := m.Add(x)
			if owner >= nobody && owner < api.MaxThreads {
				if err != api.OK {
					t.Error(x, err)
				}
				holds(t, x, got, []memory.Item{first(0, 1), x})
				continue
			}
			refused(t, x, m, got, err, api.ErrArg)
		}
	}
	for _, owner := range []int{math.MinInt, math.MaxInt} {
		got, err := m.Add(promise(0, 1, 2, 5, owner))
		refused(t, owner, m, got, err, api.ErrArg)
	}
}

// P11.1: a span must be one, and hold some time.
func TestAddOfSpans(t *testing.T) {
	m := begun(t, 1)
	inf, none := math.Inf(1), math.NaN()
	for _, s := range []span.Span{
		0, span.Span(complex(math.Copysign(0, -1), 0)), span.Span(complex(0, math.Copysign(0, -1))),
		in(1, 1), in(2, 1), in(1, 0), in(-1, 0), in(-1, 2), in(-2, -1), in(0, -1), in(span.MaxTime, span.MaxTime), in(0, span.MaxTime+1), in(span.MaxTime, span.MaxTime+1),
		0.5 + 1i, 0 + 1.5i, span.Span(complex(0, inf)), span.Span(complex(inf, inf)), span.Span(complex(none, 1)), span.Span(complex(0, none)), span.Span(complex(none, none)),
	} {
		for _, x := range []memory.Item{{S: s, Owner: nobody}, {S: s, Owner: 1}, {S: s, Res: true, Owner: 0}, {S: s, Res: true, Owner: nobody}} {
			got, err := m.Add(x)
			refused(t, x, m, got, err, api.ErrArg)
		}
	}
	for _, s := range []span.Span{in(0, 1), in(1, 2), in(0, span.MaxTime), in(span.MaxTime-1, span.MaxTime)} {
		x := memory.Item{S: s, Owner: nobody}
		holds(t, s, with(t, m, x), []memory.Item{first(0, 1), x})
	}
}

// P11.1: a view must be one; whether its times are messages' is not asked.
func TestAddOfViews(t *testing.T) {
	m := begun(t, 1)
	for _, v := range []view.View{
		{}, {Rlx: times{0, 0, 0, 9}}, view.Flat(times{5, 6, 7, 8}), {Pln: times{1, 0, 3, 0}, Rlx: times{1, 2, 3, 4}}, view.Flat(times{0, math.MaxInt, 0, 0}),
	} {
		for owner := nobody; owner < api.MaxThreads; owner++ {
			x := memory.Item{S: in(3, 4), N: 1, V: v, Owner: owner}
			holds(t, x, with(t, m, x), []memory.Item{first(0, 1), x})
		}
	}
	for _, v := range []view.View{
		{Pln: times{1}}, {Pln: times{0, 0, 0, 1}}, {Pln: times{0, 3}, Rlx: times{3, 2}}, {Rlx: times{-1}}, {Rlx: times{0, 0, -1}}, {Pln: times{-1}}, {Pln: times{0, -2}, Rlx: times{0, -2}}, view.Flat(times{0, 0, 0, math.MinInt}),
	} {
		for owner := nobody; owner < api.MaxThreads; owner++ {
			for _, res := range []bool{false, true} {
				got, err := m.Add(memory.Item{S: in(3, 4), V: v, Res: res, Owner: owner})
				refused(t, v, m, got, err, api.ErrArg)
			}
		}
	}
}

// P11.1: a reservation has no number and no view, whoever owns it; a message may have a number of any size.
func TestAddOfReservations(t *testing.T) {
	m := begun(t, 1, 2)
	for owner := nobody; owner < api.MaxThreads; owner++ {
		x := kept(1, 2, 3, owner)
		var l []memory.Item
		for _, x.N = range []uint64{1, 2, 1 << 63, math.MaxUint64} {
			l = append(l, x)
		}
		x.N = 0
		for _, x.V = range []view.View{view.At(0, 1, false), view.At(1, 3, true), view.At(3, 1, false), view.Flat(times{1, 1, 1, 1})} {
			l = append(l, x)
		}
		for _, x := range l {
			got, err := m.Add(x)
			refused(t, x, m, got, err, api.ErrArg)
			x.Res = false
			holds(t, x, with(t, m, x), []memory.Item{first(0, 1)}, []memory.Item{first(1, 2), x})
		}
	}
}

// filled is a memory with as many items of a location as there may be, put in some order of their places, every other one a reservation.
func filled(t *testing.T, m memory.Memory, loc int, place func(i int) int) memory.Memory {
	t.Helper()
	for i := range api.MaxMessages - 1 {
		p := place(i)
		if p%2 == 0 {
			m = with(t, m, message(loc, 3*p, 3*p+1, uint64(p)))
			continue
		}
		m = with(t, m, kept(loc, 3*p, 3*p+1, p/2%(api.MaxThreads+1)-1))
	}
	return m
}

// P11.1: as many items of a location as there may be, and no more, with room for as many at others.
func TestAddOfTooMany(t *testing.T) {
	const more = api.MaxMessages - 1
	for _, place := range []func(i int) int{
		func(i int) int { return i }, func(i int) int { return more - 1 - i }, func(i int) int { return i * 7 % more },
	} {
		m := begun(t, 1, 2, 3, 4)
		for _, loc := range []int{2, 0, 3, 1} {
			m = filled(t, m, loc, place)
			l := m.List(loc)
			if len(l) != api.MaxMessages || !slices.IsSortedFunc(l, func(a, b memory.Item) int { return a.S.To() - b.S.To() }) {
				t.Error(loc, l)
			}
			for _, x := range []memory.Item{message(loc, 1, 2, 5), kept(loc, 2, 3, 1), promise(loc, 1000, 1001, 5, 0), kept(loc, 31, 32, nobody)} {
				got, err := m.Add(x)
				refused(t, x, m, got, err, api.ErrLimit)
			}
			// an item that is not apart is told first, and first of all one that may not be
			got, err := m.Add(message(loc, 2, 4, 5))
			refused(t, "over one", m, got, err, api.ErrState)
			got, err = m.Add(kept(loc, 0, 1, 0))
			refused(t, "on one", m, got, err, api.ErrState)
			got, err = m.Add(kept(loc, 0, 0, 0))
			refused(t, "no time", m, got, err, api.ErrArg)
			got, err = m.Add(promise(loc, 1, 2, 5, api.MaxThreads))
			refused(t, "no thread", m, got, err, api.ErrArg)
			got, err = m.Add(promise(api.MaxLocations, 1, 2, 5, 0))
			refused(t, "no location", m, got, err, api.ErrArg)
		}
	}
}

// P11.1, P11.2: what is cancelled makes room for another one, what is fulfilled does not.
func TestRoomAgain(t *testing.T) {
	m := begun(t, 1)
	for i := range api.MaxMessages - 3 {
		m = with(t, m, message(0, i, i+1, 1))
	}
	m = with(t, m, kept(0, 100, 200, 2), promise(0, 200, 300, 1, 2))
	spare := message(0, 1000, 1001, 2)
	got, err := m.Add(spare)
	refused(t, "full", m, got, err, api.ErrLimit)
	done, err := m.Fulfil(0, 300, 2)
	if err != api.OK {
		t.Error(err)
	}
	got, err = done.Add(spare)
	refused(t, "fulfilled", done, got, err, api.ErrLimit)
	free, err := m.Cancel(0, 200, 2)
	if err != api.OK {
		t.Error(err)
	}
	free = with(t, free, message(0, 150, 151, 2))
	got, err = free.Add(spare)
	refused(t, "full again", free, got, err, api.ErrLimit)
}

// P11.1: an item that may not be there is told ahead of one that has no room.
func TestWhichErrorComesFirst(t *testing.T) {
	m := with(t, begun(t, 1), message(0, 1, 3, 5))
	for _, x := range []memory.Item{
		{S: in(1, 3), Owner: -2}, {S: in(1, 3), Owner: api.MaxThreads}, {S: in(1, 3), V: view.View{Pln: times{1}}, Owner: nobody},
		{S: in(1, 3), N: 1, Res: true}, {S: in(2, 3), V: view.At(0, 1, true), Res: true}, {Loc: 1, S: in(1, 3)}, {Loc: -1, S: in(1, 3)}, {S: in(3, 1)},
	} {
		got, err := m.Add(x)
		refused(t, x, m, got, err, api.ErrArg)
	}
	for _, loc := range []int{-1, 1} {
		got, err := m.Fulfil(loc, 7, -5)
		refused(t, loc, m, got, err, api.ErrArg)
		got, err = m.Cancel(loc, 7, -5)
		refused(t, loc, m, got, err, api.ErrArg)
	}
}

// P11.2: of all locations, times and owners just those of promises are fulfilled, and then are nobody's.
func TestFulfil(t *testing.T) {
	everyAct(t, memory.Memory.Fulfil, func(l []memory.Item, i int) []memory.Item {
		l[i].Owner = nobody
		return l
	}, false)
}

// P11.2: of all locations, times and owners just those of threads' reservations are cancelled, and then are gone.
func TestCancel(t *testing.T) {
	everyAct(t, memory.Memory.Cancel, func(l []memory.Item, i int) []memory.Item { return slices.Delete(l, i, i+1) }, true)
}

// ending is Fulfil, or Cancel.
type ending func(m memory.Memory, loc, to, owner int) (memory.Memory, api.Errno)

// everyAct does an act on a memory of all kinds of items, at all locations, times, and owners.
func everyAct(t *testing.T, act ending, change func(l []memory.Item, i int) []memory.Item, res bool) {
	t.Helper()
	m := cross(t)
	did := 0
	for loc := -2; loc <= api.MaxLocations+1; loc++ {
		for to := -2; to <= 15; to++ {
			for owner := -3; owner <= api.MaxThreads+1; owner++ {
				what := fmt.Sprint(loc, to, owner)
				got, err := act(m, loc, to, owner)
				if loc != 0 && loc != 1 {
					refused(t, what, m, got, err, api.ErrArg)
					continue
				}
				i := slices.IndexFunc(m.List(loc), func(x memory.Item) bool {
					return x.Owner >= 0 && x.Owner == owner && int(imag(x.S)) == to && x.Res == res
				})
				if i < 0 {
					refused(t, what, m, got, err, api.ErrNone)
					continue
				}
				if err != api.OK {
					t.Error(what, err)
				}
				want := [][]memory.Item{m.List(0), m.List(1)}
				want[loc] = change(want[loc], i)
				holds(t, what, got, want...)
				again, err := act(got, loc, to, owner)
				refused(t, "again "+what, got, again, err, api.ErrNone)
				did++
			}
		}
	}
	if want := map[bool]int{false: 4, true: 3}[res]; did != want {
		t.Error(did, want)
	}
}

// P11.2: what ends there, but is another owner's, nobody's, or of the other kind; and what else there is none of.
func TestNothingToFulfilOrCancel(t *testing.T) {
	m := cross(t)
	for _, c := range []struct {
		loc, to, owner int
		fulfil, cancel api.Errno
	}{
		{0, 3, 0, api.OK, api.ErrNone}, {0, 5, 0, api.ErrNone, api.OK}, {0, 9, 1, api.OK, api.ErrNone},
		// another owner's
		{0, 3, 1, api.ErrNone, api.ErrNone}, {0, 5, 1, api.ErrNone, api.ErrNone}, {0, 9, 0, api.ErrNone, api.ErrNone}, {1, 7, 2, api.ErrNone, api.ErrNone},
		// nobody's: the first one, a message, a reservation
		{0, 0, nobody, api.ErrNone, api.ErrNone}, {0, 6, nobody, api.ErrNone, api.ErrNone}, {0, 12, nobody, api.ErrNone, api.ErrNone},
		{0, 0, 0, api.ErrNone, api.ErrNone}, {0, 6, 0, api.ErrNone, api.ErrNone}, {0, 12, 0, api.ErrNone, api.ErrNone},
		// a time where one begins, or within one, or where nothing is
		{0, 2, 0, api.ErrNone, api.ErrNone}, {0, 4, 0, api.ErrNone, api.ErrNone}, {0, 8, 1, api.ErrNone, api.ErrNone}, {0, 7, 0, api.ErrNone, api.ErrNone}, {0, 13, 0, api.ErrNone, api.ErrNone}, {0, -1, 0, api.ErrNone, api.ErrNone}, {0, math.MaxInt, 0, api.ErrNone, api.ErrNone}, {0, math.MinInt, nobody, api.ErrNone, api.ErrNone},
		// an owner that is no thread
		{0, 3, nobody, api.ErrNone, api.ErrNone}, {0, 5, -2, api.ErrNone, api.ErrNone}, {1, 10, api.MaxThreads, api.ErrNone, api.ErrNone}, {1, 7, math.MaxInt, api.ErrNone, api.ErrNone}, {1, 7, math.MinInt, api.ErrNone, api.ErrNone},
		// the same time at the other location
		{1, 3, 0, api.ErrNone, api.ErrNone}, {1, 5, 0, api.ErrNone, api.ErrNone}, {1, 9, 1, api.ErrNone, api.ErrNone}, {0, 4, 0, api.ErrNone, api.ErrNone}, {0, 10, 3, api.ErrNone, api.ErrNone},
		// a location that there is not
		{-1, 3, 0, api.ErrArg, api.ErrArg}, {2, 3, 0, api.ErrArg, api.ErrArg}, {api.MaxLocations, 5, 0, api.ErrArg, api.ErrArg}, {math.MinInt, 0, nobody, api.ErrArg, api.ErrArg}, {math.MaxInt, 0, 0, api.ErrArg, api.ErrArg},
	} {
		for i, act := range []ending{memory.Memory.Fulfil, memory.Memory.Cancel} {
			got, err := act(m, c.loc, c.to, c.owner)
			if want := []api.Errno{c.fulfil, c.cancel}[i]; want != api.OK {
				refused(t, c, m, got, err, want)
			} else if err != api.OK {
				t.Error(c, err)
			}
		}
	}
}

// P11.2: a promise that was fulfilled is a message still, and a time that was cancelled is free.
func TestBehindFulfilAndCancel(t *testing.T) {
	m := cross(t)
	done, _ := m.Fulfil(0, 3, 0)
	x, is := done.At(0, 3)
	if want := message(0, 2, 3, 10); !is || x != want {
		t.Error(x, is)
	}
	got, err := done.Add(kept(0, 2, 3, 0))
	refused(t, "a message's time", done, got, err, api.ErrState)
	free, _ := m.Cancel(0, 5, 0)
	again := with(t, free, promise(0, 4, 5, 9, 3), kept(0, 3, 4, 2))
	holds(t, "filled", again, []memory.Item{first(0, 7), promise(0, 2, 3, 10, 0), kept(0, 3, 4, 2), promise(0, 4, 5, 9, 3), message(0, 5, 6, 11), promise(0, 8, 9, 12, 1), kept(0, 10, 12, nobody)}, m.List(1))
}
