package span_test

import (
	"math/rand"
	"testing"

	"troth/span"
)

// most is the latest time up to which all spans are told.
const most = 7

// all are all spans up to there, with the span of both 0.
func all(t *testing.T) []span.Span {
	t.Helper()
	l := []span.Span{0}
	for to := 1; to <= most; to++ {
		for from := range to {
			l = append(l, made(t, from, to))
		}
	}
	return l
}

// chosen are spans by chance, short ones and long ones, that may be so many times as great.
func chosen(t *testing.T, r *rand.Rand, n, count int) []span.Span {
	t.Helper()
	l := []span.Span{0}
	for range count {
		to := 1 + r.Intn(1+r.Intn(late/n))
		l = append(l, made(t, r.Intn(to), to))
	}
	return l
}

// holds are the times of a span, one bit each: above from, and not above to.
func holds(s span.Span) (times uint) {
	for at := range most + 1 {
		if float64(at) > real(s) && float64(at) <= imag(s) {
			times |= 1 << at
		}
	}
	return times
}

// less is by the to, then by the from, in one number.
func less(a, b span.Span) int {
	x, y := imag(a)*2*late+real(a), imag(b)*2*late+real(b)
	switch {
	case x < y:
		return -1
	case x > y:
		return 1
	}
	return 0
}

// P9.1: of all numbers from some below 0 on, those that may be and no other ones.
func TestAllNumbers(t *testing.T) {
	edges := []int{-3, -2, -1, 0, 1, 2, 3, 4, late/2 - 1, late / 2, late - 2, late - 1, late, late + 1, late + 2, 2 * late}
	for _, from := range edges {
		for _, to := range edges {
			right := from == 0 && to == 0 || from >= 0 && from < to && to <= late
			bare := span.Span(complex(float64(from), float64(to)))
			s, is := span.Of(from, to)
			if is != right || bare.May() != right {
				t.Error(from, to, is, bare.May())
			}
			if right && (s != bare || s.From() != from || s.To() != to) || !right && (s != 0 || bare.From() != 0 || bare.To() != 0) {
				t.Error(from, to, s, bare.From(), bare.To())
			}
		}
	}
}

// P9.1: between two whole numbers nothing may be.
func TestPartsOfNumbers(t *testing.T) {
	for from := 0.0; from <= 3; from += 0.25 {
		for to := 0.0; to <= 3; to += 0.25 {
			whole := from == float64(int(from)) && to == float64(int(to))
			right := whole && (from < to || from == 0 && to == 0)
			if s := span.Span(complex(from, to)); s.May() != right {
				t.Error(s, s.May())
			}
		}
	}
}

// P9.2, held against the times that are in each.
func TestPairsByTheirTimes(t *testing.T) {
	for _, a := range all(t) {
		for _, b := range all(t) {
			want := pair{holds(a)&holds(b) == 0, imag(a) == real(b), less(a, b)}
			if got := asked(a, b); got != want {
				t.Errorf("%v, %v: %v", a, b, got)
			}
		}
	}
}

// P9.2: the order is one, and knows all spans apart.
func TestOrder(t *testing.T) {
	l := all(t)
	for _, a := range l {
		for _, b := range l {
			if (span.Compare(a, b) == 0) != (a == b) || span.Compare(a, b) != -span.Compare(b, a) {
				t.Error(a, b, span.Compare(a, b))
			}
			for _, c := range l {
				if span.Compare(a, b) < 0 && span.Compare(b, c) < 0 && span.Compare(a, c) >= 0 {
					t.Error(a, b, c)
				}
			}
		}
	}
}

// P9.3, by numbers that may be too great.
func TestTimesByParts(t *testing.T) {
	r := rand.New(rand.NewSource(9))
	for range 20000 {
		s := chosen(t, r, 1, 1)[1]
		for _, n := range []int{1 + r.Intn(late), 1 + r.Intn(1+late/s.To()), late / s.To(), late/s.To() + 1} {
			got, is := s.Times(n)
			want, right := span.Span(0), n <= late && s.To()*n <= late
			if right {
				want = made(t, s.From()*n, s.To()*n)
			}
			if got != want || is != right {
				t.Errorf("%v.Times(%d): %v, %v", s, n, got, is)
			}
		}
	}
}

// P9.4: of spans that are apart, and hold some time, one ends at the latest where the other one begins.
func TestApartOneIsFirst(t *testing.T) {
	check := func(a, b span.Span) {
		if a == 0 || b == 0 {
			return
		}
		if first := a.To() <= b.From() || b.To() <= a.From(); span.Apart(a, b) != first {
			t.Error(a, b)
		}
	}
	r := rand.New(rand.NewSource(94))
	for _, a := range append(all(t), chosen(t, r, 1, 200)...) {
		for _, b := range append(all(t), chosen(t, r, 1, 200)...) {
			check(a, b)
		}
	}
}

// P9.4: what is apart, touches, is less, stays so with all times so many times as great.
func TestTimesKeeps(t *testing.T) {
	r := rand.New(rand.NewSource(95))
	for _, n := range []int{1, 2, 3, 10, 70, late / 10, late / most} {
		l := append(all(t), chosen(t, r, n, 50)...)
		for _, a := range l {
			for _, b := range l {
				x, is := a.Times(n)
				y, too := b.Times(n)
				if !is || !too || asked(x, y) != asked(a, b) {
					t.Errorf("%v, %v, %d: %v, %v", a, b, n, asked(a, b), asked(x, y))
				}
			}
		}
	}
}
