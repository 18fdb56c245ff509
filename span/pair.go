package span

import "cmp"

// Apart tells whether no time is in both.
func Apart(a, b Span) bool { return both(a, b) && max(real(a), real(b)) >= min(imag(a), imag(b)) }

// Touches tells whether one ends where the other one begins.
func Touches(a, b Span) bool { return both(a, b) && imag(a) == real(b) }

// Compare tells which one is less.
func Compare(a, b Span) int {
	if !both(a, b) {
		return 0
	}
	return cmp.Or(cmp.Compare(imag(a), imag(b)), cmp.Compare(real(a), real(b)))
}

// both tells whether two may be.
func both(a, b Span) bool { return a.May() && b.May() }
