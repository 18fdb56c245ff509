package cap_test

import (
	"math/rand"
	"slices"
	"testing"

	"troth/api"
	"troth/cap"
	"troth/memory"
	"troth/span"
	"troth/view"
)

// end is where the last item of a location ends.
func end(l []memory.Item) (last int) {
	for _, x := range l {
		last = max(last, int(imag(x.S)))
	}
	return last
}

// free are the spans that no item has, up to one time behind the last item: told time by time.
func free(l []memory.Item) (s []span.Span) {
	held := map[int]bool{}
	for _, x := range l {
		for at := int(real(x.S)) + 1; at <= int(imag(x.S)); at++ {
			held[at] = true
		}
	}
	begun := 0
	for at := 1; at <= end(l); at++ {
		if held[at] {
			begun = at
		} else if held[at+1] {
			s = append(s, in(begun, at))
		}
	}
	return append(s, in(end(l), end(l)+1))
}

// filled is what must be at a location in capped memory.
func filled(loc int, l []memory.Item) []memory.Item {
	l = slices.Clone(l)
	for _, s := range free(l) {
		l = append(l, memory.Item{Loc: loc, S: s, Res: true, Owner: nobody})
	}
	slices.SortFunc(l, func(a, b memory.Item) int { return int(imag(a.S)) - int(imag(b.S)) })
	return l
}

// some is an item of a span: a message, a promise or a reservation, of this owner or that, as a number says.
func some(loc, from, to, kind int) memory.Item {
	x := memory.Item{Loc: loc, S: in(from, to), Res: kind%2 == 1, Owner: kind/2%5 - 1}
	if !x.Res {
		x.N, x.V = uint64(kind+1), view.At(kind%api.MaxLocations, to, kind%3 == 0)
	}
	return x
}

// kinds is how many kinds of items there are for some.
const kinds = 10

// rows tells all rows of items up to a time: each time is free, or begins an item, or goes on with the one ahead of it.
func rows(late int, kind int, tell func(l []memory.Item)) {
	var put func(l []memory.Item, at int)
	put = func(l []memory.Item, at int) {
		if at == late {
			tell(l)
			return
		}
		put(l, at+1)
		put(append(slices.Clone(l), some(0, at, at+1, kind+3*len(l))), at+1)
		if n := len(l); n > 0 && int(imag(l[n-1].S)) == at {
			longer := slices.Clone(l)
			longer[n-1] = some(0, int(real(l[n-1].S)), at+1, kind+3*(n-1))
			put(longer, at+1)
		}
	}
	put(nil, 0)
}

// holding is a memory of one location with items.
func holding(t *testing.T, l []memory.Item) memory.Memory {
	t.Helper()
	m := made(t, "")
	for _, x := range l {
		var err api.Errno
		if m, err = m.Add(x); err != api.OK {
			t.Fatal(x, err)
		}
	}
	return m
}

// P12.1, P12.3: all rows of items, of all kinds, up to a short time: what has been free is reserved, and nothing else is.
func TestEveryRow(t *testing.T) {
	seen := 0
	for kind := range kinds {
		rows(7, kind, func(l []memory.Item) {
			m := holding(t, l)
			got := capped(t, m).List(0)
			if !slices.Equal(got, filled(0, m.List(0))) {
				t.Errorf("%q: %q", shown(m), shown(capped(t, m)))
			}
			for i, x := range got[1:] {
				if x.S.From() != got[i].S.To() { // items touch, from 0 on
					t.Errorf("%q: %q", shown(m), shown(capped(t, m)))
				}
			}
			seen++
		})
	}
	if seen != 10*610 { // every other Fibonacci number: 1, 2, 5, 13, 34, 89, 233, 610
		t.Error(seen)
	}
}

// P12.2: of all rows of items, the last message.
func TestTopOfEveryRow(t *testing.T) {
	for kind := range kinds {
		rows(6, kind, func(l []memory.Item) {
			want := 0
			for _, x := range l {
				if !x.Res {
					want = int(imag(x.S))
				}
			}
			m := holding(t, l)
			if got := cap.Top(m); got != (times{want}) {
				t.Errorf("%q: %v, not %d", shown(m), got, want)
			}
			if got := cap.Top(capped(t, m)); got != (times{want}) {
				t.Errorf("%q capped: %v, not %d", shown(m), got, want)
			}
		})
	}
}

// P12.3: in all capped memories nothing has room but behind the last item, where all has.
func TestNoRoomInAnyRow(t *testing.T) {
	n := 0
	rows(6, 1, func(l []memory.Item) {
		m := capped(t, holding(t, l))
		last := end(m.List(0))
		for to := 1; to <= last+3; to++ {
			for from := range to {
				x := some(0, from, to, n)
				got, err := m.Add(x)
				if want := map[bool]api.Errno{false: api.ErrState, true: api.OK}[from >= last]; err != want {
					t.Errorf("%q: %v: %v", shown(m), x, err)
				}
				if err != api.OK && !alike(got, m) {
					t.Errorf("%q: %q", shown(m), shown(got))
				}
				n += 7
			}
		}
	})
}

// P12.3: that is so whosever it is, whatever its kind, at each location.
func TestNoRoomForAnyKind(t *testing.T) {
	m := capped(t, made(t, "", "2-3 4-7p1", "0-1 1-2r0 5-6r", "3-4p3 4-5p2 9-10r1"))
	for loc, last := range []int{1, 8, 7, 11} {
		for kind := range kinds {
			for to := 1; to <= last+4; to++ {
				for from := range to {
					x := some(loc, from, to, kind)
					got, err := m.Add(x)
					if from < last {
						if err != api.ErrState || !alike(got, m) {
							t.Error(x, err, shown(got))
						}
						continue
					}
					if l := append(m.List(loc), x); err != api.OK || !slices.Equal(got.List(loc), l) {
						t.Error(x, err, shown(got))
					}
				}
			}
		}
	}
}

// P12.3: where there are as many items as there may be, or the last time is taken, nothing can be added at all.
func TestNoRoomBehindAFullOne(t *testing.T) {
	m := capped(t, made(t, text(api.MaxMessages/2-1, api.MaxMessages/2-1, true), "1048570-1048575p1"))
	last := end(m.List(0))
	for kind := range kinds {
		for _, c := range []struct {
			loc, from, to int
			err           api.Errno
		}{
			{0, last, last + 1, api.ErrLimit}, {0, last + 5, span.MaxTime, api.ErrLimit}, {0, last - 1, last, api.ErrState}, {0, 0, 1, api.ErrState},
			{1, span.MaxTime - 1, span.MaxTime, api.ErrState}, {1, span.MaxTime, span.MaxTime + 1, api.ErrArg}, {1, 0, 1, api.ErrState}, {1, 0, span.MaxTime, api.ErrState},
		} {
			got, err := m.Add(some(c.loc, c.from, c.to, kind))
			if err != c.err || !alike(got, m) {
				t.Error(c, kind, err)
			}
		}
	}
}

// P12.3: what was there is there still: of threads just that, of nobody reservations besides.
func TestOwnersStay(t *testing.T) {
	m := made(t, "1-2p0 2-3r0 5-6p1 7-8", "", "0-1p2 3-4r2 4-5r 9-10p3", "5-6r3 8-9r0")
	full := capped(t, m)
	for owner := range api.MaxThreads {
		if l := full.Owned(owner); len(l) == 0 || !slices.Equal(l, m.Owned(owner)) {
			t.Error(owner, l)
		}
	}
	for loc := range m.Locs() {
		old := slices.DeleteFunc(full.List(loc), func(x memory.Item) bool { return slices.Contains(free(m.List(loc)), x.S) })
		if !slices.Equal(old, m.List(loc)) {
			t.Error(loc, old)
		}
		for _, x := range m.List(loc) {
			got, is := full.At(loc, x.S.To())
			if want, was := m.At(loc, x.S.To()); got != want || is != was {
				t.Error(x, got, is)
			}
		}
		last, is := full.Last(loc)
		if want, was := m.Last(loc); last != want || is != was {
			t.Error(loc, last, is)
		}
	}
	for _, v := range []view.View{{}, view.At(0, 2, true), view.At(0, 8, true), view.At(2, 10, false), view.At(0, 3, true), view.At(0, 1, false), view.At(1, 1, true), view.At(2, 3, false)} {
		if full.Closed(v) != m.Closed(v) {
			t.Error(v, full.Closed(v))
		}
	}
}

// P12.3: in capped memory threads can keep their promises and give up reservations, and nobody those that came.
func TestPromisesCanBeKept(t *testing.T) {
	m := made(t, "1-2p0 2-3r0 5-6p1 7-8", "0-1p2 3-4r2 4-5r 9-10p3")
	full := capped(t, m)
	for loc := range m.Locs() {
		for _, x := range full.List(loc) {
			for owner := nobody; owner <= api.MaxThreads; owner++ {
				to := x.S.To()
				done, err := full.Fulfil(loc, to, owner)
				was, want := m.Fulfil(loc, to, owner)
				if err != want || !alike(done, capped(t, was)) {
					t.Error(x, owner, err, want, shown(done))
				}
				gone, err := full.Cancel(loc, to, owner)
				if _, want := m.Cancel(loc, to, owner); err != want {
					t.Error(x, owner, err, want)
				}
				if err == api.OK { // its own room is free again, and no other
					again, err := gone.Add(x)
					if err != api.OK || !alike(again, full) {
						t.Error(x, err, shown(again))
					}
					x.S = in(int(real(x.S)), to+1)
					if _, err := gone.Add(x); err != api.ErrState {
						t.Error(x, err)
					}
				}
			}
		}
	}
}

// P12.1, R3: no list that was handed out is written to, nor does what is written to one show.
func TestListsAreApart(t *testing.T) {
	m := made(t, "1-2p0 2-3r0 5-6p1 7-8", "0-1p2 3-4r2 4-5r 9-10p3", "")
	lists, own := told(m), m.Owned(nobody)
	was, owned := told(m), m.Owned(nobody)
	full := capped(t, m)
	want := told(full)
	if !slices.EqualFunc(lists, was, slices.Equal) || !slices.Equal(own, owned) {
		t.Error(lists, own)
	}
	for _, l := range append(lists, own, full.List(0), full.List(1), full.List(2), full.Owned(nobody)) {
		for i := range l {
			l[i] = memory.Item{Loc: -7, N: 9}
		}
		_ = append(l, memory.Item{Loc: -7, N: 9}) // into what room there may be behind its end
	}
	if again := capped(t, m); !slices.EqualFunc(told(full), want, slices.Equal) || !slices.EqualFunc(told(again), want, slices.Equal) {
		t.Errorf("%q, %q", shown(full), shown(again))
	}
}

// P12.1: a memory, and what it is capped, go each their own way.
func TestMemoriesAreApart(t *testing.T) {
	m := made(t, "1-2p0 2-3r0 5-6p1", "3-4r2 4-5r 9-10p3")
	full := capped(t, m)
	here, there := told(m), told(full)
	for loc := range m.Locs() {
		for at := range 14 {
			for kind := range kinds {
				m.Add(some(loc, at, at+1, kind))
				full.Add(some(loc, at, at+1, kind))
			}
			for owner := range api.MaxThreads {
				m.Fulfil(loc, at, owner)
				m.Cancel(loc, at, owner)
				full.Fulfil(loc, at, owner)
				full.Cancel(loc, at, owner)
			}
			capped(t, full)
			capped(t, m)
		}
	}
	if !slices.EqualFunc(told(m), here, slices.Equal) || !slices.EqualFunc(told(full), there, slices.Equal) {
		t.Errorf("%q, %q", shown(m), shown(full))
	}
}

// grown is a memory by chance: of some locations, with items that often have room, of which some were fulfilled or cancelled.
func grown(t *testing.T, r *rand.Rand) memory.Memory {
	t.Helper()
	locs, late, long := 1+r.Intn(api.MaxLocations), 4+r.Intn(90), 1+r.Intn(9)
	m := made(t, slices.Repeat([]string{""}, locs)...)
	for range r.Intn(1 + 90*locs) {
		loc, to := r.Intn(locs), 1+r.Intn(late)
		switch r.Intn(8) {
		case 0:
			m, _ = m.Fulfil(loc, to, r.Intn(api.MaxThreads))
		case 1:
			m, _ = m.Cancel(loc, to, r.Intn(api.MaxThreads))
		default:
			m, _ = m.Add(some(loc, max(0, to-1-r.Intn(long)), to, r.Intn(kinds)))
		}
	}
	return m
}

// P12.1, P12.2, P12.3: memories by chance, held against what is told of them time by time.
func TestByChance(t *testing.T) {
	r := rand.New(rand.NewSource(12))
	full := 0
	for range 6000 {
		m := grown(t, r)
		top, fits := times{}, true
		for loc := range m.Locs() {
			l := m.List(loc)
			fits = fits && len(l)+len(free(l)) <= api.MaxMessages
			for _, x := range l {
				if !x.Res {
					top[loc] = int(imag(x.S))
				}
			}
		}
		if got := cap.Top(m); got != top {
			t.Fatalf("%q: %v, not %v", shown(m), got, top)
		}
		if !fits {
			refused(t, shown(m), m)
			full++
			continue
		}
		got := capped(t, m)
		for loc := range m.Locs() {
			if !slices.Equal(got.List(loc), filled(loc, m.List(loc))) {
				t.Fatalf("%q: %q", shown(m), shown(got))
			}
		}
		if got.Locs() != m.Locs() || cap.Top(got) != top {
			t.Fatalf("%q: %q", shown(m), shown(got))
		}
	}
	if full < 100 || full > 3000 {
		t.Error(full)
	}
}
