package cap_test

import (
	"fmt"
	"slices"
	"strings"
	"testing"

	"troth/api"
	"troth/cap"
	"troth/memory"
	"troth/span"
	"troth/view"
)

// nobody owns what is no thread's.
const nobody = -1

// times are one of each location.
type times = [api.MaxLocations]int

// in is a span that a test knows to be one.
func in(from, to int) span.Span { return span.Span(complex(float64(from), float64(to))) }

// item is one of a text: where it begins and ends; then p and a thread of a promise, r and a thread of its reservation, r alone of nobody's.
func item(t *testing.T, loc int, text string) memory.Item {
	t.Helper()
	var from, to int
	x := memory.Item{Loc: loc, Owner: nobody}
	kind := strings.TrimLeft(text, "0123456789-")
	if n, _ := fmt.Sscanf(strings.TrimSuffix(text, kind), "%d-%d", &from, &to); n != 2 {
		t.Fatal(text)
	}
	x.S, x.Res = in(from, to), strings.HasPrefix(kind, "r")
	if len(kind) > 1 {
		x.Owner = int(kind[1] - '0')
	}
	if !x.Res { // numbers and views of all messages differ, so that none is taken for another one
		x.N, x.V = uint64(to)<<3+uint64(loc), view.At(loc, to, x.Owner == nobody)
	}
	return x
}

// row is what is at a location: its starting number, and the items of a text.
func row(t *testing.T, loc int, text string) []memory.Item {
	t.Helper()
	l := []memory.Item{{Loc: loc, N: uint64(loc) + 100, Owner: nobody}}
	for _, word := range strings.Fields(text) {
		l = append(l, item(t, loc, word))
	}
	return l
}

// made is a memory of items, as a text of each location has them, put in from the last one to the first one.
func made(t *testing.T, texts ...string) memory.Memory {
	t.Helper()
	start := make([]uint64, len(texts))
	for loc := range start {
		start[loc] = uint64(loc) + 100
	}
	m, err := memory.Begin(start)
	if err != api.OK {
		t.Fatal(texts, err)
	}
	for loc, text := range texts {
		for _, x := range slices.Backward(row(t, loc, text)[1:]) {
			if m, err = m.Add(x); err != api.OK {
				t.Fatal(text, x, err)
			}
		}
	}
	return m
}

// told are all lists of a memory, with those on either side of its locations.
func told(m memory.Memory) (l [][]memory.Item) {
	for loc := -1; loc <= api.MaxLocations; loc++ {
		l = append(l, m.List(loc))
	}
	return l
}

// shown is what is at each location, short, as texts have it.
func shown(m memory.Memory) (l []string) {
	for _, items := range told(m) {
		var words []string
		for _, x := range items {
			word := fmt.Sprintf("%d-%d", int(real(x.S)), int(imag(x.S)))
			if x.Res {
				word += "r"
			} else if x.Owner != nobody {
				word += "p"
			}
			if x.Owner != nobody {
				word += fmt.Sprint(x.Owner)
			}
			words = append(words, word)
		}
		l = append(l, strings.Join(words, " "))
	}
	return l
}

// alike tells whether two memories hold the same.
func alike(a, b memory.Memory) bool {
	return a.Locs() == b.Locs() && slices.EqualFunc(told(a), told(b), slices.Equal)
}

// capped is a memory that can be capped, capped; that it stays as it was is seen to each time.
func capped(t *testing.T, m memory.Memory) memory.Memory {
	t.Helper()
	was := told(m)
	got, err := cap.Capped(m)
	if err != api.OK {
		t.Fatalf("%v: %q", err, shown(m))
	}
	if !slices.EqualFunc(told(m), was, slices.Equal) {
		t.Fatalf("%q, not as it was", shown(m))
	}
	return got
}

// refused tells whether a memory is not capped, but answered as it was.
func refused(t *testing.T, what any, m memory.Memory) {
	t.Helper()
	got, err := cap.Capped(m)
	if err != api.ErrLimit || !alike(got, m) {
		t.Errorf("%v: %v, %q\nand not %q", what, err, shown(got), shown(m))
	}
}

// P12.1: the chapter's example.
func TestExample(t *testing.T) {
	m, _ := memory.Begin([]uint64{7})
	m, _ = m.Add(memory.Item{S: in(2, 3), N: 5, Owner: nobody})
	got, err := cap.Capped(m)
	want := []memory.Item{
		{N: 7, Owner: nobody}, {S: in(0, 2), Res: true, Owner: nobody}, {S: in(2, 3), N: 5, Owner: nobody}, {S: in(3, 4), Res: true, Owner: nobody},
	}
	if err != api.OK || got.Locs() != 1 || !slices.Equal(got.List(0), want) {
		t.Error(got.List(0), err)
	}
}

// shapes are what may be at a location, and what is there when it is capped.
var shapes = []struct{ text, want string }{
	// the first item alone
	{"", "0-1r"},
	// items that touch one another
	{"0-1", "0-1 1-2r"},
	{"0-1 1-2 2-3", "0-1 1-2 2-3 3-4r"},
	{"0-5 5-6p0 6-9r2 9-10r 10-20p3", "0-5 5-6p0 6-9r2 9-10r 10-20p3 20-21r"},
	// gaps behind the first item
	{"1-2", "0-1r 1-2 2-3r"},
	{"2-3", "0-2r 2-3 3-4r"},
	{"7-9 9-10", "0-7r 7-9 9-10 10-11r"},
	{"3-4p1", "0-3r 3-4p1 4-5r"},
	{"3-4r1", "0-3r 3-4r1 4-5r"},
	{"3-4r", "0-3r 3-4r 4-5r"},
	// gaps between messages
	{"0-1 2-3", "0-1 1-2r 2-3 3-4r"},
	{"0-1 5-6", "0-1 1-5r 5-6 6-7r"},
	{"0-1 2-3 4-5", "0-1 1-2r 2-3 3-4r 4-5 5-6r"},
	{"1-2 4-7 7-8 20-30", "0-1r 1-2 2-4r 4-7 7-8 8-20r 20-30 30-31r"},
	// gaps between a message and a reservation
	{"0-1 2-3r0", "0-1 1-2r 2-3r0 3-4r"},
	{"0-1 3-4r", "0-1 1-3r 3-4r 4-5r"},
	{"0-1r3 4-6", "0-1r3 1-4r 4-6 6-7r"},
	{"0-1r 2-3", "0-1r 1-2r 2-3 3-4r"},
	// gaps between reservations
	{"0-1r1 3-4r2", "0-1r1 1-3r 3-4r2 4-5r"},
	{"0-1r 2-3r", "0-1r 1-2r 2-3r 3-4r"},
	{"1-2r0 3-4r0", "0-1r 1-2r0 2-3r 3-4r0 4-5r"},
	// gaps between promises
	{"0-1p0 2-3p1", "0-1p0 1-2r 2-3p1 3-4r"},
	{"1-2p3 5-9p0 11-12p2 12-13p1", "0-1r 1-2p3 2-5r 5-9p0 9-11r 11-12p2 12-13p1 13-14r"},
	{"0-2p1 3-4r1 6-7 8-9p1", "0-2p1 2-3r 3-4r1 4-6r 6-7 7-8r 8-9p1 9-10r"},
	// gaps that are very long
	{"1048000-1048001", "0-1048000r 1048000-1048001 1048001-1048002r"},
	{"0-1 1048574-1048575", "0-1 1-1048574r 1048574-1048575 1048575-1048576r"},
	{"500000-500001p2 1000000-1000002", "0-500000r 500000-500001p2 500001-1000000r 1000000-1000002 1000002-1000003r"},
	// items that are very long
	{"0-1048575", "0-1048575 1048575-1048576r"},
	{"1-1048575r1", "0-1r 1-1048575r1 1048575-1048576r"},
}

// P12.1: a memory of one location.
func TestCapped(t *testing.T) {
	for _, c := range shapes {
		got := capped(t, made(t, c.text))
		if got.Locs() != 1 || !slices.Equal(got.List(0), row(t, 0, c.want)) {
			t.Errorf("%q: %q", c.text, shown(got))
		}
	}
}

// P12.1: a memory of several locations is capped at each of them, whatever is at the others.
func TestCappedOfSeveral(t *testing.T) {
	for locs := 2; locs <= api.MaxLocations; locs++ {
		for i := range shapes {
			var texts, wants []string
			for loc := range locs {
				c := shapes[(i+loc*7)%len(shapes)]
				texts, wants = append(texts, c.text), append(wants, c.want)
			}
			got := capped(t, made(t, texts...))
			for loc, want := range wants {
				if got.Locs() != locs || !slices.Equal(got.List(loc), row(t, loc, want)) {
					t.Errorf("%q %d: %q", texts, loc, shown(got))
				}
			}
		}
	}
}

// P12.1: of a memory that is capped already the last item is a reservation as any other: behind it comes one more.
func TestCappedAgain(t *testing.T) {
	m := made(t, "", "2-3", "0-1p1 4-5r2", "1048000-1048001")
	for i, want := range [][]string{
		{"0-1r", "0-2r 2-3 3-4r", "0-1p1 1-4r 4-5r2 5-6r", "0-1048000r 1048000-1048001 1048001-1048002r"},
		{"0-1r 1-2r", "0-2r 2-3 3-4r 4-5r", "0-1p1 1-4r 4-5r2 5-6r 6-7r", "0-1048000r 1048000-1048001 1048001-1048002r 1048002-1048003r"},
		{"0-1r 1-2r 2-3r", "0-2r 2-3 3-4r 4-5r 5-6r", "0-1p1 1-4r 4-5r2 5-6r 6-7r 7-8r", "0-1048000r 1048000-1048001 1048001-1048002r 1048002-1048003r 1048003-1048004r"},
	} {
		m = capped(t, m)
		if !alike(m, made(t, want...)) {
			t.Errorf("%d: %q", i, shown(m))
		}
	}
	// so it goes on till there are MaxMessages of one location
	for range api.MaxMessages - 8 {
		m = capped(t, m)
	}
	m = capped(t, m)
	if len(m.List(2)) != api.MaxMessages || len(m.List(0)) != api.MaxMessages-3 {
		t.Errorf("%q", shown(m))
	}
	refused(t, "full", m)
}

// text is what is at a location: so many items beside the first one, so many gaps ahead of the last ones, or of the first ones.
func text(items, gaps int, last bool) string {
	var words []string
	at := 0
	for i := range items {
		if last && i >= items-gaps || !last && i < gaps {
			at += 1 + i%3
		}
		words = append(words, fmt.Sprintf("%d-%d%s", at, at+1+i%2, []string{"", "p0", "r1", "r", "", "p3", "r2"}[i%7]))
		at += 1 + i%2
	}
	return strings.Join(words, " ")
}

// P12.1: a location may come to have MaxMessages, and no more: too much may be its gaps, or just what comes behind its last item.
func TestCappedToTheMost(t *testing.T) {
	for locs := 1; locs <= api.MaxLocations; locs++ {
		for loc := range locs {
			for items := range api.MaxMessages {
				for _, gaps := range []int{0, 1, items / 2, api.MaxMessages - 2 - items - 1, api.MaxMessages - 2 - items, api.MaxMessages - 1 - items, api.MaxMessages - items, items - 1, items} {
					if gaps < 0 || gaps > items {
						continue
					}
					texts := slices.Repeat([]string{"2-3 4-5p1"}, locs)
					texts[loc] = text(items, gaps, (items+gaps)%2 == 0)
					m := made(t, texts...)
					what := fmt.Sprint(texts, loc)
					if 1+items+gaps+1 > api.MaxMessages {
						refused(t, what, m)
						continue
					}
					if l := capped(t, m).List(loc); len(l) != 1+items+gaps+1 {
						t.Error(what, l)
					}
				}
			}
		}
	}
}

// P12.1: at MaxMessages to the letter, by gaps, and by what comes behind the last item; and at one more.
func TestEdgesOfTheMost(t *testing.T) {
	const most = api.MaxMessages
	for _, c := range []struct {
		text string
		ok   bool
	}{
		{text(most-2, 0, true), true},       // one below it are there, and one comes behind them
		{text(most-1, 0, true), false},      // that one is too much
		{text(most-3, 1, true), true},       // with a gap ahead of the last item
		{text(most-3, 1, false), true},      // with one behind the first item
		{text(most-2, 1, true), false},      // with the gap there is as much as there may be: the last one is too much
		{text(most-2, 1, false), false},     // likewise
		{text(most-1, 1, true), false},      // the gap is too much
		{text(most-1, 1, false), false},     // likewise
		{text(most-1, most-1, true), false}, // gaps behind all
		{text(most/2-1, most/2-1, true), true},
		{text(most/2, most/2-2, false), true},
		{text(most/2, most/2-1, false), false}, // as much as there may be by gaps
		{text(most/2, most/2, true), false},    // one more
	} {
		for loc := range api.MaxLocations {
			texts := []string{"", "1-2", "0-1 1-2", "3-4r"}
			texts[loc] = c.text
			m := made(t, texts...)
			if !c.ok {
				refused(t, texts, m)
				continue
			}
			if l := capped(t, m).List(loc); len(l) != api.MaxMessages {
				t.Error(texts, len(l))
			}
		}
	}
}

// P12.1: behind a last item that ends at MaxTime no time is left.
func TestCappedAtMaxTime(t *testing.T) {
	const late = span.MaxTime
	for locs := 1; locs <= api.MaxLocations; locs++ {
		for loc := range locs {
			for _, kind := range []string{"", "p0", "p3", "r1", "r"} {
				for _, ahead := range []string{"", "0-1 ", "2-3p1 3-4r2 ", fmt.Sprintf("0-%d ", late-9)} {
					for end := late - 3; end <= late; end++ {
						for _, long := range []int{1, 2, 6} {
							texts := slices.Repeat([]string{"2-3"}, locs)
							texts[loc] = fmt.Sprintf("%s%d-%d%s", ahead, end-long, end, kind)
							m := made(t, texts...)
							if end == late {
								refused(t, texts, m)
								continue
							}
							l := capped(t, m).List(loc)
							if want := (memory.Item{Loc: loc, S: in(end, end+1), Res: true, Owner: nobody}); l[len(l)-1] != want {
								t.Error(texts, l)
							}
						}
					}
				}
			}
		}
	}
	refused(t, "all times", made(t, fmt.Sprintf("0-%d", late)))
	refused(t, "one is too late, one too full", made(t, fmt.Sprintf("0-%d", late), text(api.MaxMessages-1, 0, true)))
}

// P12.1: one location at which there is too much, or a time too late: no other one is capped.
func TestOneTooMuch(t *testing.T) {
	for _, c := range []string{text(api.MaxMessages-1, 0, true), text(25, 25, true), text(30, 9, false), fmt.Sprintf("5-%d", span.MaxTime), fmt.Sprintf("%d-%dr2", span.MaxTime-1, span.MaxTime)} {
		for loc := range api.MaxLocations {
			texts := []string{"2-3 5-6p1", "", "0-1r2 7-8r", "4-5 5-6p2 9-10r3"}
			texts[loc] = c
			m := made(t, texts...)
			was := told(m)
			refused(t, texts, m)
			if !slices.EqualFunc(told(m), was, slices.Equal) {
				t.Errorf("%q: %q", texts, shown(m))
			}
			// what came back is the memory still: it can be added to as before
			got, _ := cap.Capped(m)
			other := (loc + 1) % api.MaxLocations
			for _, word := range []string{"20-21", "30-31p0", "40-50r1"} {
				more, err := got.Add(item(t, other, word))
				if err != api.OK {
					t.Error(texts, word, err)
				}
				got = more
			}
			texts[other] += " 20-21 30-31p0 40-50r1"
			if !alike(got, made(t, texts...)) {
				t.Errorf("%q: %q", texts, shown(got))
			}
		}
	}
}

// P12.1, P12.2: a memory of no locations is capped as it is.
func TestOfNoLocations(t *testing.T) {
	none, _ := memory.Begin(nil)
	many, _ := memory.Begin(make([]uint64, api.MaxLocations+1))
	for _, m := range []memory.Memory{{}, none, many} {
		if got := capped(t, m); got.Locs() != 0 || !alike(got, m) {
			t.Errorf("%q", shown(got))
		}
		if got := cap.Top(m); got != (times{}) {
			t.Error(got)
		}
	}
}

// P12.2: the greatest to of a message, of each location; what is behind it and is none does not count.
func TestTop(t *testing.T) {
	for _, c := range []struct {
		texts []string
		want  times
	}{
		{[]string{""}, times{}},
		{[]string{"0-1"}, times{1}},
		{[]string{"4-7"}, times{7}},
		{[]string{"0-1 1-2 5-9"}, times{9}},
		// a promise, of any thread
		{[]string{"2-3p0"}, times{3}},
		{[]string{"0-1 2-3p3"}, times{3}},
		{[]string{"0-1p1 2-3"}, times{3}},
		{[]string{"0-1p1 2-3p2 3-4p1"}, times{4}},
		// a reservation, of a thread, of nobody
		{[]string{"0-1r"}, times{}},
		{[]string{"0-1r0"}, times{}},
		{[]string{"2-3 3-4r"}, times{3}},
		{[]string{"2-3 3-4r2"}, times{3}},
		{[]string{"2-3p1 4-5r1 6-7r"}, times{3}},
		{[]string{"0-1r2 2-3 4-5r 5-6p0 8-9r0"}, times{6}},
		// the latest times
		{[]string{"0-1048576"}, times{1048576}},
		{[]string{"3-4 4-1048576r"}, times{4}},
		// as many items as there may be, the last ones a promise and two reservations
		{[]string{text(api.MaxMessages-1, 0, true), "1-2"}, times{55, 2}},
		// locations one by one; of those that there are not 0
		{[]string{"", "5-6"}, times{0, 6}},
		{[]string{"5-6", ""}, times{6, 0}},
		{[]string{"1-2", "3-4p1", "5-6r1"}, times{2, 4, 0}},
		{[]string{"1-2", "3-4p1 5-6r1", "7-8 8-10", "0-11p2 12-13r"}, times{2, 4, 10, 11}},
		{[]string{"", "", "", "9-10"}, times{0, 0, 0, 10}},
	} {
		m := made(t, c.texts...)
		was := told(m)
		if got := cap.Top(m); got != c.want {
			t.Errorf("%q: %v, not %v", c.texts, got, c.want)
		}
		if !slices.EqualFunc(told(m), was, slices.Equal) {
			t.Errorf("%q: %q", c.texts, shown(m))
		}
	}
}

// P12.2: to be capped, or not to be, adds no message.
func TestTopOfCapped(t *testing.T) {
	for i, c := range shapes {
		m := made(t, c.text, shapes[len(shapes)-1-i].text)
		top := cap.Top(m)
		for range 3 {
			full, err := cap.Capped(m)
			if err == api.OK {
				m = full
			}
			if got := cap.Top(m); got != top {
				t.Errorf("%q: %v, not %v", c.text, got, top)
			}
		}
	}
}
