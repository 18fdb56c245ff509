package places_test

import (
	"fmt"
	"math"
	"slices"
	"strings"
	"testing"

	"troth/api"
	"troth/memory"
	"troth/places"
	"troth/span"
	"troth/view"
)

// nobody owns what is no thread's.
const nobody = -1

// in is a span that a test knows to be one.
func in(from, to int) span.Span { return span.Span(complex(float64(from), float64(to))) }

// spans are those of a text: where each begins and ends.
func spans(t *testing.T, text string) (l []span.Span) {
	t.Helper()
	for _, word := range strings.Fields(text) {
		var from, to int
		if n, _ := fmt.Sscanf(word, "%d-%d", &from, &to); n != 2 || fmt.Sprintf("%d-%d", from, to) != word {
			t.Fatal(text)
		}
		l = append(l, in(from, to))
	}
	return l
}

// item is one of a text: where it begins and ends; then p and a thread of a promise, r and a thread of its reservation, r alone of nobody's.
func item(t *testing.T, loc int, text string) memory.Item {
	t.Helper()
	x := memory.Item{Loc: loc, Owner: nobody}
	kind := strings.TrimLeft(text, "0123456789-")
	x.S, x.Res = spans(t, strings.TrimSuffix(text, kind))[0], strings.HasPrefix(kind, "r")
	if len(kind) > 1 {
		x.Owner = int(kind[1] - '0')
	}
	if !x.Res {
		to := int(imag(x.S))
		x.N, x.V = uint64(to)<<3+uint64(loc), view.At(loc, to, x.Owner == nobody)
	}
	return x
}

// made is a memory of items, as a text of each location has them, put in from the last one to the first one.
func made(t *testing.T, texts ...string) memory.Memory {
	t.Helper()
	m, err := memory.Begin(make([]uint64, len(texts)))
	if err != api.OK {
		t.Fatal(texts, err)
	}
	for loc, text := range texts {
		for _, word := range slices.Backward(strings.Fields(text)) {
			if m, err = m.Add(item(t, loc, word)); err != api.OK {
				t.Fatal(text, word, err)
			}
		}
	}
	return m
}

// told are all lists of a memory, with those on either side of its locations.
func told(m memory.Memory) (l [][]memory.Item) {
	for loc := -1; loc <= api.MaxLocations; loc++ {
		l = append(l, m.List(loc))
	}
	return l
}

// spoil writes to all of a list, and into what room there may be behind its end.
func spoil(l []span.Span) {
	for i := range l[:cap(l)] {
		l[:cap(l)][i] = in(77, 88)
	}
}

// asked is what a call answers; that the memory stays as it was, and that the answer may be written to, is seen to each time.
func asked(t *testing.T, m memory.Memory, call func() []span.Span) []span.Span {
	t.Helper()
	was := told(m)
	first := call()
	got := slices.Clone(first)
	second := call()
	if !slices.Equal(second, got) {
		t.Fatal(got, "and asked again", second)
	}
	spoil(first)
	if !slices.Equal(second, got) {
		t.Fatal(got, "and behind a write to another answer", second)
	}
	spoil(second)
	if third := call(); !slices.Equal(third, got) {
		t.Fatal(got, "and behind a write to other answers", third)
	}
	if !slices.EqualFunc(told(m), was, slices.Equal) {
		t.Fatal(was, "are not as they were", told(m))
	}
	return got
}

// all is what All answers.
func all(t *testing.T, m memory.Memory, loc int) []span.Span {
	t.Helper()
	return asked(t, m, func() []span.Span { return places.All(m, loc) })
}

// behind is what Behind answers.
func behind(t *testing.T, m memory.Memory, loc, at int) []span.Span {
	t.Helper()
	return asked(t, m, func() []span.Span { return places.Behind(m, loc, at) })
}

// P15.1, P15.2: the chapter's example.
func TestExample(t *testing.T) {
	m, _ := memory.Begin([]uint64{0})
	m, err := m.Add(memory.Item{S: 3 + 6i, Owner: nobody})
	if err != api.OK {
		t.Fatal(err)
	}
	if got, want := all(t, m, 0), []span.Span{0 + 3i, 0 + 1i, 1 + 3i, 1 + 2i, 6 + 7i, 7 + 8i}; !slices.Equal(got, want) {
		t.Error(got)
	}
	for at, want := range [][]span.Span{0: {0 + 3i, 0 + 1i}, 6: {6 + 7i}, 9: nil} {
		if got := behind(t, m, 0, at); !slices.Equal(got, want) {
			t.Error(at, got)
		}
	}
}

// shapes are what may be at a location, and its places.
var shapes = []struct{ text, want string }{
	// the first item alone
	{"", "0-1 1-2"},
	// items that touch one another
	{"0-1", "1-2 2-3"},
	{"0-9", "9-10 10-11"},
	{"0-1 1-2 2-3", "3-4 4-5"},
	{"0-5 5-6p0 6-9r2 9-10r 10-20p3", "20-21 21-22"},
	// a gap of 1, behind the first item, in the middle, as the last one
	{"1-2", "0-1 2-3 3-4"},
	{"1-8", "0-1 8-9 9-10"},
	{"0-1 2-3 3-4", "1-2 4-5 5-6"},
	{"0-1 1-2 3-4", "2-3 4-5 5-6"},
	{"0-6 7-8", "6-7 8-9 9-10"},
	// a gap of 2
	{"2-3", "0-2 0-1 1-2 3-4 4-5"},
	{"2-7 7-9", "0-2 0-1 1-2 9-10 10-11"},
	{"0-1 3-4", "1-3 1-2 2-3 4-5 5-6"},
	{"0-4 6-7 7-8", "4-6 4-5 5-6 8-9 9-10"},
	// a gap of 3
	{"3-6", "0-3 0-1 1-3 1-2 6-7 7-8"},
	{"0-1 4-5", "1-4 1-2 2-4 2-3 5-6 6-7"},
	{"0-2 5-9 9-10", "2-5 2-3 3-5 3-4 10-11 11-12"},
	// greater gaps
	{"4-5", "0-4 0-1 1-4 1-2 5-6 6-7"},
	{"5-6", "0-5 0-1 1-5 1-2 6-7 7-8"},
	{"0-1 5-6", "1-5 1-2 2-5 2-3 6-7 7-8"},
	{"0-3 9-12", "3-9 3-4 4-9 4-5 12-13 13-14"},
	{"0-10 110-120", "10-110 10-11 11-110 11-12 120-121 121-122"},
	// several gaps
	{"1-2 3-4 5-6", "0-1 2-3 4-5 6-7 7-8"},
	{"1-2 4-5 8-9 13-14", "0-1 2-4 2-3 3-4 5-8 5-6 6-8 6-7 9-13 9-10 10-13 10-11 14-15 15-16"},
	{"4-5 8-9 11-12 13-14", "0-4 0-1 1-4 1-2 5-8 5-6 6-8 6-7 9-11 9-10 10-11 12-13 14-15 15-16"},
	{"2-4 4-5 7-9 9-10 12-20", "0-2 0-1 1-2 5-7 5-6 6-7 10-12 10-11 11-12 20-21 21-22"},
	// promises and reservations among the items, and as the last one
	{"3-4p1", "0-3 0-1 1-3 1-2 4-5 5-6"},
	{"3-4r1", "0-3 0-1 1-3 1-2 4-5 5-6"},
	{"3-4r", "0-3 0-1 1-3 1-2 4-5 5-6"},
	{"1-2p0 2-3r0 5-6p1", "0-1 3-5 3-4 4-5 6-7 7-8"},
	{"0-1r 3-4 4-5r3", "1-3 1-2 2-3 5-6 6-7"},
	{"0-1r3 4-6 6-7r 7-8p2 11-12r0", "1-4 1-2 2-4 2-3 8-11 8-9 9-11 9-10 12-13 13-14"},
	{"0-2p1 3-4r1 6-7 10-11p1", "2-3 4-6 4-5 5-6 7-10 7-8 8-10 8-9 11-12 12-13"},
	// long gaps, far times
	{"1048000-1048001", "0-1048000 0-1 1-1048000 1-2 1048001-1048002 1048002-1048003"},
	{"500000-500001p2 1000000-1000002", "0-500000 0-1 1-500000 1-2 500001-1000000 500001-500002 500002-1000000 500002-500003 1000002-1000003 1000003-1000004"},
	// the last item just so early that both of the places behind all may be
	{"0-1048573", "1048573-1048574 1048574-1048575"},
	{"0-1048574", "1048574-1048575 1048575-1048576"},
	{"0-9 9-1048574r1", "1048574-1048575 1048575-1048576"},
	{"1048573-1048574p2", "0-1048573 0-1 1-1048573 1-2 1048574-1048575 1048575-1048576"},
	// that one of them may be
	{"0-1048575", "1048575-1048576"},
	{"1-1048575r1", "0-1 1048575-1048576"},
	{"0-1 1048573-1048575p0", "1-1048573 1-2 2-1048573 2-3 1048575-1048576"},
	// that none may be: it ends at the latest time
	{"0-1048576", ""},
	{"1-1048576", "0-1"},
	{"0-1 3-1048576r", "1-3 1-2 2-3"},
	{"0-1048572 1048575-1048576p3", "1048572-1048575 1048572-1048573 1048573-1048575 1048573-1048574"},
	{"0-1048573 1048575-1048576", "1048573-1048575 1048573-1048574 1048574-1048575"},
	{"0-1048574 1048575-1048576r0", "1048574-1048575"},
	{"0-1048575 1048575-1048576", ""},
}

// P15.1: a memory of one location.
func TestAll(t *testing.T) {
	for _, c := range shapes {
		if got := all(t, made(t, c.text), 0); !slices.Equal(got, spans(t, c.want)) {
			t.Errorf("%q: %v, not %q", c.text, got, c.want)
		}
	}
}

// P15.1, P15.2: a memory of several locations: what is at the others plays no part.
func TestOfSeveral(t *testing.T) {
	for locs := 2; locs <= api.MaxLocations; locs++ {
		for i := range shapes {
			var texts, wants []string
			for loc := range locs {
				c := shapes[(i+loc*7)%len(shapes)]
				texts, wants = append(texts, c.text), append(wants, c.want)
			}
			m := made(t, texts...)
			for loc, want := range wants {
				if got := all(t, m, loc); !slices.Equal(got, spans(t, want)) {
					t.Errorf("%q %d: %v, not %q", texts, loc, got, want)
				}
				alone := made(t, texts[loc])
				for at := -1; at < 24; at++ {
					if got := behind(t, m, loc, at); !slices.Equal(got, behind(t, alone, 0, at)) {
						t.Errorf("%q %d %d: %v", texts, loc, at, got)
					}
				}
			}
		}
	}
}

// P15.1, P15.2: whosever an item is, and whatever its kind, the places are those beside its span.
func TestOwnersAndKindsPlayNoPart(t *testing.T) {
	for _, c := range shapes {
		bare := strings.Fields(c.text)
		for i, word := range bare {
			if kind := strings.IndexAny(word, "pr"); kind >= 0 {
				bare[i] = word[:kind]
			}
		}
		want := spans(t, c.want)
		for kind := range 9 {
			words := slices.Clone(bare)
			for i := range words {
				words[i] += []string{"", "r", "p0", "r1", "p2", "r3", "p3", "r0", "p1"}[(kind+i*kind/2)%9]
			}
			m := made(t, strings.Join(words, " "))
			if got := all(t, m, 0); !slices.Equal(got, want) {
				t.Errorf("%q: %v, not %q", words, got, c.want)
			}
			for _, at := range ends(m.List(0)) {
				if got := behind(t, m, 0, at); !slices.Equal(got, begun(want, at)) {
					t.Errorf("%q %d: %v", words, at, got)
				}
			}
		}
	}
}

// ends are the times at which items end.
func ends(l []memory.Item) (at []int) {
	for _, x := range l {
		at = append(at, int(imag(x.S)))
	}
	return at
}

// begun are the spans that begin at a time.
func begun(l []span.Span, at int) (of []span.Span) {
	for _, s := range l {
		if real(s) == float64(at) {
			of = append(of, s)
		}
	}
	return of
}

// P15.1: where as many items are as there may be, the gaps have their places still: the document bounds them by the latest time alone.
func TestAsManyItemsAsThereMayBe(t *testing.T) {
	var words, want []string
	for i := range api.MaxMessages - 1 {
		words = append(words, fmt.Sprintf("%d-%d%s", 2*i+1, 2*i+2, []string{"", "r", "p1", "r2"}[i%4]))
		want = append(want, fmt.Sprintf("%d-%d", 2*i, 2*i+1))
	}
	want = append(want, "78-79", "79-80")
	m := made(t, strings.Join(words, " "), "")
	if got := all(t, m, 0); !slices.Equal(got, spans(t, strings.Join(want, " "))) {
		t.Error(got)
	}
	if got := all(t, m, 1); !slices.Equal(got, spans(t, "0-1 1-2")) {
		t.Error(got)
	}
	for i, word := range want[:api.MaxMessages] {
		if got := behind(t, m, 0, 2*i); !slices.Equal(got, spans(t, word)) {
			t.Error(2*i, got)
		}
		if got := behind(t, m, 0, 2*i+1); len(got) != 0 {
			t.Error(2*i+1, got)
		}
	}
}

// P15.2: what begins at some item's to, by hand.
func TestBehind(t *testing.T) {
	row := "2-4 4-5p1 8-9r2 10-12 14-17r"
	for _, c := range []struct {
		text string
		at   int
		want string
	}{
		// the first item alone: what is behind it is behind all, and only one place touches it
		{"", 0, "0-1"},
		{"", 1, ""},
		{"", 2, ""},
		// the first item's to, with gaps of 0, 1, 2, 3 and more behind it
		{"0-1", 0, ""},
		{"1-2", 0, "0-1"},
		{"2-3", 0, "0-2 0-1"},
		{"3-4", 0, "0-3 0-1"},
		{"9-10", 0, "0-9 0-1"},
		// in the middle, with gaps of 0, 1, 2, 3 and more behind it
		{"0-1 1-2", 1, ""},
		{"0-1 2-3", 1, "1-2"},
		{"0-1 3-4", 1, "1-3 1-2"},
		{"0-1 4-5", 1, "1-4 1-2"},
		{"5-7 70-71 71-72", 7, "7-70 7-8"},
		// the last one's
		{"0-1", 1, "1-2"},
		{"0-1 1-2", 2, "2-3"},
		{"3-4 6-9", 9, "9-10"},
		// each time of a row of items of all kinds
		{row, -1, ""},
		{row, 0, "0-2 0-1"},
		{row, 1, ""}, // a place begins there, but no item ends
		{row, 2, ""}, // an item's from, but no item's to
		{row, 3, ""}, // within an item
		{row, 4, ""}, // an item's to, where the next one touches it
		{row, 5, "5-8 5-6"},
		{row, 6, ""},
		{row, 7, ""}, // between
		{row, 8, ""},
		{row, 9, "9-10"},
		{row, 10, ""},
		{row, 11, ""},
		{row, 12, "12-14 12-13"},
		{row, 13, ""},
		{row, 14, ""},
		{row, 15, ""},
		{row, 16, ""},
		{row, 17, "17-18"},
		{row, 18, ""}, // the other place behind all begins there
		{row, 19, ""},
		{row, 20, ""},
		// the last item late
		{"0-1048574", 1048574, "1048574-1048575"},
		{"0-1048574", 1048575, ""},
		{"0-1048575", 1048575, "1048575-1048576"},
		{"0-1048575", 1048576, ""},
		{"0-1048576", 1048576, ""},
		{"0-1048576", 1048575, ""},
		{"0-1048576", 1048577, ""},
		{"5-1048576r1", 1048576, ""},
		{"5-1048576r1", 0, "0-5 0-1"},
		{"0-1048573 1048575-1048576p3", 1048573, "1048573-1048575 1048573-1048574"},
		{"0-1048573 1048575-1048576p3", 1048574, ""},
		{"0-1048573 1048575-1048576p3", 1048575, ""},
	} {
		if got := behind(t, made(t, c.text), 0, c.at); !slices.Equal(got, spans(t, c.want)) {
			t.Errorf("%q %d: %v, not %q", c.text, c.at, got, c.want)
		}
	}
}

// P15.2: of each shape, at each time about an end of an item or of a place: those of all its places that begin there, if an item ends there.
func TestBehindOfEachShape(t *testing.T) {
	for _, c := range shapes {
		m, want := made(t, c.text), spans(t, c.want)
		tos := ends(m.List(0))
		for _, s := range append(spans(t, "0-0"), want...) {
			for _, near := range []int{int(real(s)), int(imag(s)), tos[int(imag(s))%len(tos)]} {
				for at := near - 1; at <= near+1; at++ {
					var those []span.Span
					if slices.Contains(tos, at) {
						those = begun(want, at)
					}
					if got := behind(t, m, 0, at); !slices.Equal(got, those) {
						t.Errorf("%q %d: %v, not %v", c.text, at, got, those)
					}
				}
			}
		}
	}
}

// P15.2: an end at another location is none here.
func TestBehindAnotherLocationsItems(t *testing.T) {
	m := made(t, "3-5 9-10", "6-7r1", "", "0-2 4-8p1")
	for loc, wants := range []map[int]string{
		{0: "0-3 0-1", 5: "5-9 5-6", 10: "10-11"},
		{0: "0-6 0-1", 7: "7-8"},
		{0: "0-1"},
		{2: "2-4 2-3", 8: "8-9"},
	} {
		for at := -3; at < 15; at++ {
			if got := behind(t, m, loc, at); !slices.Equal(got, spans(t, wants[at])) {
				t.Errorf("%d %d: %v, not %q", loc, at, got, wants[at])
			}
		}
	}
}

// P15.1, P15.2: of a location that there is not, and of a memory of none: nothing.
func TestNoSuchLocation(t *testing.T) {
	none, _ := memory.Begin(nil)
	many, _ := memory.Begin(make([]uint64, api.MaxLocations+1))
	memories := []memory.Memory{{}, none, many, made(t, ""), made(t, "1-2 4-5r1"), made(t, "3-4", "0-1p2"), made(t, "", "", "7-9"), made(t, "1-2", "3-4", "5-6", "7-8")}
	for _, m := range memories {
		for _, loc := range []int{math.MinInt, math.MinInt32, -5, -4, -2, -1, m.Locs(), m.Locs() + 1, api.MaxLocations, api.MaxLocations + 1, 256, 1 << 32, math.MaxInt} {
			if got := all(t, m, loc); len(got) != 0 {
				t.Error(m.Locs(), loc, got)
			}
			for _, at := range []int{-1, 0, 1, 2, 4, 5, 9, span.MaxTime} {
				if got := behind(t, m, loc, at); len(got) != 0 {
					t.Error(m.Locs(), loc, at, got)
				}
			}
		}
	}
}

// P15.1, P15.2: the first location and the last one, of memories of each size.
func TestFirstAndLastLocation(t *testing.T) {
	for locs := 1; locs <= api.MaxLocations; locs++ {
		for loc := range locs {
			texts := slices.Repeat([]string{""}, locs)
			texts[loc] = "3-6"
			m := made(t, texts...)
			for other := range locs {
				want, first, last := "0-1 1-2", "0-1", ""
				if other == loc {
					want, first, last = "0-3 0-1 1-3 1-2 6-7 7-8", "0-3 0-1", "6-7"
				}
				if got := all(t, m, other); !slices.Equal(got, spans(t, want)) {
					t.Error(texts, other, got)
				}
				if got := behind(t, m, other, 0); !slices.Equal(got, spans(t, first)) {
					t.Error(texts, other, got)
				}
				if got := behind(t, m, other, 6); !slices.Equal(got, spans(t, last)) {
					t.Error(texts, other, got)
				}
			}
		}
	}
}

// P15.2: a time below 0, or behind the latest one, is no item's to.
func TestNoSuchTime(t *testing.T) {
	m := made(t, "3-6 6-7p1", "", "0-1048576", "0-1048575")
	for _, at := range []int{math.MinInt, math.MinInt + 1, math.MinInt32, -span.MaxTime, -7, -6, -2, -1, span.MaxTime + 1, span.MaxTime + 2, math.MaxInt32, 1 << 32, 1<<32 + 6, 1<<53 + 1, math.MaxInt - 1, math.MaxInt} {
		for loc := -1; loc <= m.Locs(); loc++ {
			if got := behind(t, m, loc, at); len(got) != 0 {
				t.Error(loc, at, got)
			}
		}
	}
}

// P15.1, P15.2: answers share nothing with one another, nor with the memory.
func TestAnswersAreApart(t *testing.T) {
	m := made(t, "3-6 9-10r1", "1-2", "0-1048575")
	was := told(m)
	ask := func() (l [][]span.Span) {
		for loc := range m.Locs() {
			l = append(l, places.All(m, loc))
			for _, at := range ends(m.List(loc)) {
				l = append(l, places.Behind(m, loc, at))
			}
		}
		return l
	}
	want := ask()
	for i := range want {
		l := ask()
		spoil(l[i])
		_ = append(l[i], in(5, 6))
		l[i] = want[i]
		if !slices.EqualFunc(l, want, slices.Equal) || !slices.EqualFunc(ask(), want, slices.Equal) {
			t.Error(i, l, ask())
		}
	}
	if !slices.EqualFunc(told(m), was, slices.Equal) {
		t.Error(told(m))
	}
}
