package span_test

import (
	"math"
	"testing"

	"troth/span"
)

const late = span.MaxTime

// made is a span that must be one.
func made(t *testing.T, from, to int) span.Span {
	t.Helper()
	s, is := span.Of(from, to)
	if !is {
		t.Fatal("no span", from, to)
	}
	return s
}

// minus is a 0 with a sign.
func minus() float64 { return math.Copysign(0, -1) }

// wrong are spans that may not be.
func wrong() []span.Span {
	inf, nan, below := math.Inf(1), math.NaN(), math.Nextafter(0, -1)
	return []span.Span{
		1, 2, 1 + 1i, 2 + 1i, 5, late + late*1i, late + 1i, late, // the wrong way round, or no time in it
		-1, -1 + 1i, -1i, 1 - 1i, -1 - 1i, -2 - 1i, -late + late*1i, 1 - late*1i, // below 0
		(late + 1) * 1i, late + (late+1)*1i, late + 1 + (late+2)*1i, 1 + 1e300i, 1e300i, 1e300, // later than the latest time
		0.5 + 1i, 0.5i, 1.5i, 1 + 1.5i, 0.5 + 1.5i, 0.25 + 0.5i, 0.5, 1e-300i, 1e-300 + 1i, (late - 0.5) + late*1i, (late + 0.5) * 1i, // no whole numbers
		span.Span(complex(inf, 1)), span.Span(complex(-inf, 1)), span.Span(complex(0, inf)), span.Span(complex(0, -inf)),
		span.Span(complex(inf, inf)), span.Span(complex(-inf, inf)), span.Span(complex(inf, 0)), span.Span(complex(inf, -inf)),
		span.Span(complex(nan, 1)), span.Span(complex(0, nan)), span.Span(complex(nan, nan)), span.Span(complex(nan, 0)),
		span.Span(complex(nan, inf)), span.Span(complex(inf, nan)), span.Span(complex(1, nan)), span.Span(complex(nan, late)),
		span.Span(complex(below, 1)), span.Span(complex(0, below)), span.Span(complex(below, below)),
		span.Span(complex(0, -below)), span.Span(complex(1, math.Nextafter(2, 3))), span.Span(complex(math.Nextafter(1, 0), 2)),
		span.Span(complex(0, math.Nextafter(late, inf))), span.Span(complex(0, math.Nextafter(late, 0))),
		span.Span(complex(math.Nextafter(late, 0), late)), span.Span(complex(1, minus())), span.Span(complex(-1, minus())),
		span.Span(complex(math.MaxFloat64, math.MaxFloat64)), span.Span(complex(-math.MaxFloat64, 1)), span.Span(complex(0, math.MaxInt64)),
	}
}

// right are spans that may be: the span of both 0, shortest ones, long ones, the latest ones.
func right() []span.Span {
	return []span.Span{0, 1i, 2i, 1 + 2i, 1 + 3i, 2 + 3i, 3 + 4i, 7 + 700i, late * 1i, (late - 1) * 1i, 1 + late*1i, late - 1 + late*1i, late/2 + late*1i, late / 2 * 1i}
}

// P9.1 to P9.3, as the chapter's examples show them.
func TestExamples(t *testing.T) {
	if s, is := span.Of(1, 3); s != 1+3i || !is {
		t.Error(s, is)
	}
	if !span.Apart(1+3i, 3+4i) || !span.Touches(1+3i, 3+4i) {
		t.Error("1 + 3i and 3 + 4i")
	}
	if s, is := span.Span(1 + 3i).Times(3); s != 3+9i || !is {
		t.Error(s, is)
	}
	if span.MaxTime != 1<<20 {
		t.Error(span.MaxTime)
	}
}

// P9.1: the span and true, if it may be; else 0 and false.
func TestOf(t *testing.T) {
	for _, c := range []struct {
		from, to int
		want     span.Span
		is       bool
	}{
		{0, 0, 0, true}, {0, 1, 1i, true}, {0, 2, 2i, true}, {1, 2, 1 + 2i, true}, {5, 9, 5 + 9i, true},
		{0, late, late * 1i, true}, {late - 1, late, late - 1 + late*1i, true}, {1, late, 1 + late*1i, true}, {0, late - 1, (late - 1) * 1i, true},
		// equal, but not both 0
		{1, 1, 0, false}, {2, 2, 0, false}, {late, late, 0, false}, {-1, -1, 0, false},
		// the wrong way round
		{1, 0, 0, false}, {2, 1, 0, false}, {late, 0, 0, false}, {late, late - 1, 0, false}, {late, 1, 0, false},
		// below 0
		{-1, 0, 0, false}, {-1, 1, 0, false}, {0, -1, 0, false}, {-2, -1, 0, false}, {1, -1, 0, false}, {-1, late, 0, false},
		// later than the latest time
		{0, late + 1, 0, false}, {1, late + 1, 0, false}, {late, late + 1, 0, false}, {late + 1, late + 2, 0, false}, {late + 1, 0, 0, false}, {late + 1, late + 1, 0, false},
		// the least and the greatest numbers
		{math.MinInt, math.MaxInt, 0, false}, {0, math.MaxInt, 0, false}, {math.MaxInt, 0, 0, false}, {math.MaxInt, math.MaxInt, 0, false}, {math.MaxInt - 1, math.MaxInt, 0, false},
		{math.MinInt, 0, 0, false}, {0, math.MinInt, 0, false}, {math.MinInt, 1, 0, false}, {math.MinInt, math.MinInt, 0, false}, {1, math.MaxInt, 0, false}, {math.MaxInt, 1, 0, false},
		{math.MinInt, late, 0, false}, {late, math.MaxInt, 0, false}, {math.MinInt, math.MinInt + 1, 0, false},
		{math.MaxUint32, 1 << 32, 0, false}, {1 << 32, 1<<32 + 1, 0, false}, {0, 1<<32 + 1, 0, false}, {1<<32 + 1, 2, 0, false}, {1 << 53, 1<<53 + 1, 0, false},
	} {
		if s, is := span.Of(c.from, c.to); s != c.want || is != c.is {
			t.Errorf("Of(%d, %d): %v, %v", c.from, c.to, s, is)
		}
	}
}

// P9.1: whether it may be, and its from and its to.
func TestMayBe(t *testing.T) {
	for _, s := range right() {
		if !s.May() || s.From() != int(real(s)) || s.To() != int(imag(s)) {
			t.Errorf("%v: %v, %d, %d", s, s.May(), s.From(), s.To())
		}
	}
	for _, c := range []struct {
		s        span.Span
		from, to int
	}{
		{0, 0, 0}, {1i, 0, 1}, {1 + 2i, 1, 2}, {7 + 700i, 7, 700}, {late * 1i, 0, late}, {late - 1 + late*1i, late - 1, late},
		// a 0 with a sign is a 0
		{span.Span(complex(minus(), minus())), 0, 0}, {span.Span(complex(minus(), 0)), 0, 0}, {span.Span(complex(0, minus())), 0, 0}, {span.Span(complex(minus(), 3)), 0, 3},
	} {
		if !c.s.May() || c.s.From() != c.from || c.s.To() != c.to {
			t.Errorf("%v: %v, %d, %d", c.s, c.s.May(), c.s.From(), c.s.To())
		}
	}
}

// P9.1: what may not be has neither a from nor a to.
func TestMayNotBe(t *testing.T) {
	for _, s := range wrong() {
		if s.May() || s.From() != 0 || s.To() != 0 {
			t.Errorf("%v: %v, %d, %d", s, s.May(), s.From(), s.To())
		}
	}
}

// pair is what is asked of two.
type pair struct {
	apart, touches bool
	compare        int
}

func asked(a, b span.Span) pair {
	return pair{span.Apart(a, b), span.Touches(a, b), span.Compare(a, b)}
}

// P9.2: apart, touching, one less than the other one.
func TestPairs(t *testing.T) {
	for _, c := range []struct {
		a, b         span.Span
		there, round pair // as they stand; the other way round
	}{
		// apart, with a time between
		{1 + 2i, 3 + 4i, pair{true, false, -1}, pair{true, false, 1}},
		{1i, late - 1 + late*1i, pair{true, false, -1}, pair{true, false, 1}},
		// one ends where the other one begins
		{1i, 1 + 2i, pair{true, true, -1}, pair{true, false, 1}},
		{1 + 3i, 3 + 4i, pair{true, true, -1}, pair{true, false, 1}},
		{5i, 5 + late*1i, pair{true, true, -1}, pair{true, false, 1}},
		// one time in common
		{2i, 1 + 3i, pair{false, false, -1}, pair{false, false, 1}},
		{1 + 4i, 3 + 9i, pair{false, false, -1}, pair{false, false, 1}},
		// one within the other one: in the middle, at either end
		{2 + 3i, 1 + 4i, pair{false, false, -1}, pair{false, false, 1}},
		{1 + 2i, 1 + 4i, pair{false, false, -1}, pair{false, false, 1}},
		{1 + 4i, 3 + 4i, pair{false, false, -1}, pair{false, false, 1}},
		{late * 1i, late - 1 + late*1i, pair{false, false, -1}, pair{false, false, 1}},
		// less by its to, though it begins later
		{5 + 6i, 7i, pair{false, false, -1}, pair{false, false, 1}},
		// less by its from alone
		{6i, 5 + 6i, pair{false, false, -1}, pair{false, false, 1}},
		// the same one
		{1i, 1i, pair{false, false, 0}, pair{false, false, 0}},
		{1 + 2i, 1 + 2i, pair{false, false, 0}, pair{false, false, 0}},
		{3 + 9i, 3 + 9i, pair{false, false, 0}, pair{false, false, 0}},
		{late * 1i, late * 1i, pair{false, false, 0}, pair{false, false, 0}},
		// what is there at first holds no time that could be in both
		{0, 0, pair{true, true, 0}, pair{true, true, 0}},
		{0, 1i, pair{true, true, -1}, pair{true, false, 1}},
		{0, late * 1i, pair{true, true, -1}, pair{true, false, 1}},
		{0, 1 + 2i, pair{true, false, -1}, pair{true, false, 1}},
		{0, late - 1 + late*1i, pair{true, false, -1}, pair{true, false, 1}},
		// a 0 with a sign
		{span.Span(complex(minus(), minus())), 0, pair{true, true, 0}, pair{true, true, 0}},
		{span.Span(complex(minus(), 3)), 3i, pair{false, false, 0}, pair{false, false, 0}},
		{0, span.Span(complex(minus(), 3)), pair{true, true, -1}, pair{true, false, 1}},
	} {
		if got := asked(c.a, c.b); got != c.there {
			t.Errorf("%v, %v: %v", c.a, c.b, got)
		}
		if got := asked(c.b, c.a); got != c.round {
			t.Errorf("%v, %v: %v", c.b, c.a, got)
		}
	}
}

// P9.2: false, false and 0, if one may not be, or neither.
func TestPairsThatMayNotBe(t *testing.T) {
	for _, a := range wrong() {
		for _, b := range append(wrong(), right()...) {
			if got := asked(a, b); got != (pair{}) {
				t.Errorf("%v, %v: %v", a, b, got)
			}
			if got := asked(b, a); got != (pair{}) {
				t.Errorf("%v, %v: %v", b, a, got)
			}
		}
	}
}

// P9.3: both parts so many times as great, as long as that may be.
func TestTimes(t *testing.T) {
	for _, c := range []struct {
		s    span.Span
		n    int
		want span.Span
		is   bool
	}{
		{1i, 1, 1i, true}, {1 + 2i, 1, 1 + 2i, true}, {1 + 3i, 3, 3 + 9i, true}, {2 + 5i, 7, 14 + 35i, true}, {7 + 700i, 10, 70 + 7000i, true},
		// up to where the product may still be, and one more
		{1i, late, late * 1i, true}, {1 + 2i, late / 2, late/2 + late*1i, true}, {1 + 2i, late/2 + 1, 0, false}, {1 + 2i, late, 0, false},
		{2i, late / 2, late * 1i, true}, {2i, late/2 + 1, 0, false}, {3i, late / 3, late / 3 * 3 * 1i, true}, {3i, late/3 + 1, 0, false},
		{2 + 3i, late / 3, late/3*2 + late/3*3*1i, true}, {2 + 3i, late/3 + 1, 0, false},
		{late / 2 * 1i, 2, late * 1i, true}, {late / 2 * 1i, 3, 0, false}, {(late/2 + 1) * 1i, 2, 0, false}, {late/2 - 1 + late/2*1i, 2, late - 2 + late*1i, true},
		{late * 1i, 1, late * 1i, true}, {late - 1 + late*1i, 1, late - 1 + late*1i, true}, {late * 1i, 2, 0, false}, {late - 1 + late*1i, 2, 0, false}, {late - 1 + late*1i, late, 0, false}, {late * 1i, late, 0, false},
		// what is there at first stays so
		{0, 1, 0, true}, {0, 3, 0, true}, {0, late, 0, true}, {span.Span(complex(minus(), 3)), 2, 6i, true}, {span.Span(complex(minus(), minus())), 2, 0, true},
		// none, or less than none, or more than there are times
		{1i, 0, 0, false}, {1 + 2i, 0, 0, false}, {0, 0, 0, false}, {1i, -1, 0, false}, {1 + 2i, -1, 0, false}, {0, -1, 0, false}, {1 + 2i, -late, 0, false},
		{1i, late + 1, 0, false}, {0, late + 1, 0, false}, {1 + 2i, late + 1, 0, false}, {1i, math.MaxInt, 0, false}, {0, math.MaxInt, 0, false}, {1i, math.MinInt, 0, false}, {0, math.MinInt, 0, false},
		{1i, 1<<32 + 1, 0, false}, {0, 1<<32 + 1, 0, false}, {1i, 1 << 53, 0, false},
	} {
		if s, is := c.s.Times(c.n); s != c.want || is != c.is {
			t.Errorf("%v.Times(%d): %v, %v", c.s, c.n, s, is)
		}
	}
}

// P9.3: of what may not be none, also where the product would be one that may.
func TestTimesOfWhatMayNotBe(t *testing.T) {
	for _, s := range append(wrong(), 0.5i, 0.5+1.5i, 0.25+0.75i, 1.5i) {
		for _, n := range []int{math.MinInt, -2, -1, 0, 1, 2, 3, 4, late, late + 1, math.MaxInt} {
			if r, is := s.Times(n); r != 0 || is {
				t.Errorf("%v.Times(%d): %v, %v", s, n, r, is)
			}
		}
	}
}

// R2: what is answered hangs on the arguments alone.
func TestNothingIsKept(t *testing.T) {
	all := append(wrong(), right()...)
	told := func() (l []any) {
		for i, a := range all {
			b := all[(i*7+3)%len(all)]
			s, is := a.Times(i)
			l = append(l, asked(a, b), s, is, a.May(), a.From(), a.To())
		}
		return l
	}
	first := told()
	for i, x := range told() {
		if x != first[i] {
			t.Error(i, x, first[i])
		}
	}
}
