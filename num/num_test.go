package num_test

import (
	"math"
	"math/big"
	"testing"

	"troth/api"
	"troth/num"
)

const most = math.MaxUint64

// edges are the numbers at which going round, or a right side of 0, shows.
func edges() []uint64 {
	l := []uint64{0, 1, 2, 3, 5, 6, 7, 10, 255, 256, most, most - 1, most - 2, most / 2, most/2 + 1, most/2 + 2, most / 3, 0xaaaaaaaaaaaaaaaa, 0x5555555555555555, 0x0123456789abcdef}
	for i := 8; i < 64; i += 8 {
		l = append(l, 1<<i-1, 1<<i, 1<<i+1)
	}
	return l
}

// pairs tells all pairs of edges.
func pairs(do func(a, b uint64)) {
	for _, a := range edges() {
		for _, b := range edges() {
			do(a, b)
		}
	}
}

// exact is the answer in numbers that do not go round, cut to 64 bits only in the end.
func exact(op uint8, x, y uint64) uint64 {
	a, b, r := new(big.Int).SetUint64(x), new(big.Int).SetUint64(y), new(big.Int)
	is := func(yes bool) *big.Int {
		if yes {
			return r.SetInt64(1)
		}
		return r
	}
	switch op {
	case api.Eq:
		is(a.Cmp(b) == 0)
	case api.Ne:
		is(a.Cmp(b) != 0)
	case api.Lt:
		is(a.Cmp(b) < 0)
	case api.Le:
		is(a.Cmp(b) <= 0)
	case api.Add:
		r.Add(a, b)
	case api.Sub:
		r.Sub(a, b)
	case api.Or:
		r.Or(a, b)
	case api.Xor:
		r.Xor(a, b)
	case api.Mul:
		r.Mul(a, b)
	case api.And:
		r.And(a, b)
	case api.Div, api.Rem:
		if b.Sign() == 0 {
			return 0
		}
		if op == api.Div {
			r.Quo(a, b)
		} else {
			r.Rem(a, b)
		}
	}
	return r.Mod(r, new(big.Int).Lsh(big.NewInt(1), 64)).Uint64()
}

// P1.1: ordinary numbers, and the edges that the chapter names.
func TestDo(t *testing.T) {
	for _, c := range []struct {
		name       string
		op         uint8
		a, b, want uint64
	}{
		{"alike", api.Eq, 3, 3, 1}, {"not alike", api.Eq, 3, 4, 0}, {"alike but for the highest bit", api.Eq, 1, 1<<63 + 1, 0},
		{"another one", api.Ne, 3, 4, 1}, {"no other one", api.Ne, 3, 3, 0},
		{"less", api.Lt, 2, 3, 1}, {"not less than itself", api.Lt, 3, 3, 0}, {"greater", api.Lt, 4, 3, 0}, {"no sign: the highest bit is great", api.Lt, 1 << 63, 1, 0}, {"less than the greatest", api.Lt, 1, most, 1},
		{"not greater", api.Le, 2, 3, 1}, {"not greater than itself", api.Le, 3, 3, 1}, {"greater", api.Le, 4, 3, 0}, {"no sign: the greatest is above 0", api.Le, most, 0, 0},
		{"sum", api.Add, 2, 3, 5}, {"sum goes round", api.Add, most, 2, 1}, {"sum comes to 0", api.Add, 1 << 63, 1 << 63, 0},
		{"difference", api.Sub, 7, 3, 4}, {"difference goes round", api.Sub, 0, 1, most}, {"difference of one", api.Sub, 3, 4, most},
		{"product", api.Mul, 6, 7, 42}, {"product goes round", api.Mul, 1 << 63, 2, 0}, {"product of the greatest", api.Mul, most, most, 1}, {"product by 0", api.Mul, most, 0, 0},
		{"or", api.Or, 6, 3, 7}, {"xor", api.Xor, 6, 3, 5}, {"and", api.And, 6, 3, 2}, {"and is by bits", api.And, 4, 3, 0}, {"or is by bits", api.Or, 4, 3, 7},
		{"quotient", api.Div, 6, 2, 3}, {"quotient, made whole downwards", api.Div, 7, 2, 3}, {"quotient below 1", api.Div, 2, 7, 0}, {"no sign: quotient of the greatest", api.Div, most, 2, 1<<63 - 1},
		{"quotient by 0", api.Div, 7, 0, 0}, {"quotient of 0 by 0", api.Div, 0, 0, 0}, {"quotient of the greatest by 0", api.Div, most, 0, 0}, {"quotient of 0", api.Div, 0, 7, 0},
		{"rest", api.Rem, 7, 2, 1}, {"no rest", api.Rem, 6, 2, 0}, {"rest is all", api.Rem, 2, 7, 2}, {"no sign: rest of the greatest", api.Rem, most, 10, 5},
		{"rest by 0", api.Rem, 7, 0, 0}, {"rest of the greatest by 0", api.Rem, most, 0, 0},
	} {
		if got := num.Do(c.op, c.a, c.b); got != c.want {
			t.Errorf("%s: Do(%d, %d, %d) is %d, not %d", c.name, c.op, c.a, c.b, got, c.want)
		}
	}
}

// P1.1: all pairs of edges, held against numbers that do not go round.
func TestDoIsExact(t *testing.T) {
	for op := api.Eq; op <= api.And; op++ {
		pairs(func(a, b uint64) {
			if got, want := num.Do(op, a, b), exact(op, a, b); got != want {
				t.Errorf("Do(%d, %d, %d) is %d, not %d", op, a, b, got, want)
			}
		})
	}
}

// P1.1
func TestOne(t *testing.T) {
	for _, c := range []struct {
		op      uint8
		a, want uint64
	}{
		{api.Not, 0, 1}, {api.Not, 1, 0}, {api.Not, 5, 0}, {api.Not, 1 << 63, 0}, {api.Not, most, 0},
		{api.Neg, 0, 0}, {api.Neg, 1, most}, {api.Neg, most, 1}, {api.Neg, 5, most - 4}, {api.Neg, 1 << 63, 1 << 63},
	} {
		if got := num.One(c.op, c.a); got != c.want {
			t.Errorf("One(%d, %d) is %d, not %d", c.op, c.a, got, c.want)
		}
	}
}

// P1.1: numbers that are no operation, and operations of the other number of sides, answer 0.
func TestWrongOperations(t *testing.T) {
	for n := 0; n < 256; n++ {
		op := uint8(n)
		two := op >= api.Eq && op <= api.And
		one := op == api.Not || op == api.Neg
		pairs(func(a, b uint64) {
			if got := num.Do(op, a, b); !two && got != 0 {
				t.Errorf("Do(%d, %d, %d) is %d, not 0", op, a, b, got)
			}
		})
		for _, a := range edges() {
			if got := num.One(op, a); !one && got != 0 {
				t.Errorf("One(%d, %d) is %d, not 0", op, a, got)
			}
		}
	}
}

// P1.2: all numbers there are, those that are no operation, too.
func TestSidesAndText(t *testing.T) {
	type row struct {
		sides int
		text  string
	}
	rows := map[uint8]row{
		api.Eq: {2, "=="}, api.Ne: {2, "!="}, api.Lt: {2, "<"}, api.Le: {2, "<="},
		api.Add: {2, "+"}, api.Sub: {2, "-"}, api.Or: {2, "|"}, api.Xor: {2, "^"},
		api.Mul: {2, "*"}, api.Div: {2, "/"}, api.Rem: {2, "%"}, api.And: {2, "&"},
		api.Not: {1, "!"}, api.Neg: {1, "-"},
	}
	for n := 0; n < 256; n++ {
		op := uint8(n)
		if got := num.Sides(op); got != rows[op].sides {
			t.Errorf("Sides(%d) is %d, not %d", op, got, rows[op].sides)
		}
		if got := num.Text(op); got != rows[op].text {
			t.Errorf("Text(%d) is %q, not %q", op, got, rows[op].text)
		}
	}
}

// P1.3: what undoes one another.
func TestUndo(t *testing.T) {
	pairs(func(a, b uint64) {
		if got := num.Do(api.Sub, num.Do(api.Add, a, b), b); got != a {
			t.Errorf("%d + %d - %d is %d", a, b, b, got)
		}
		if got := num.Do(api.Add, num.Do(api.Sub, a, b), b); got != a {
			t.Errorf("%d - %d + %d is %d", a, b, b, got)
		}
		if got := num.Do(api.Xor, num.Do(api.Xor, a, b), b); got != a {
			t.Errorf("%d ^ %d ^ %d is %d", a, b, b, got)
		}
		if got, want := num.One(api.Neg, a), num.Do(api.Sub, 0, a); got != want {
			t.Errorf("-%d is %d, 0 less it %d", a, got, want)
		}
	})
}

// P1.3: quotient and rest are the left side again, and the rest is less than the right one.
func TestQuotientAndRest(t *testing.T) {
	pairs(func(a, b uint64) {
		quotient, rest := num.Do(api.Div, a, b), num.Do(api.Rem, a, b)
		again := num.Do(api.Add, num.Do(api.Mul, quotient, b), rest)
		if b == 0 && (quotient != 0 || rest != 0) {
			t.Errorf("%d by 0: %d, rest %d", a, quotient, rest)
		}
		if b != 0 && (again != a || rest >= b) {
			t.Errorf("%d by %d: %d, rest %d", a, b, quotient, rest)
		}
	})
}

// P1.3: what is just the contrary of the other one.
func TestContrary(t *testing.T) {
	pairs(func(a, b uint64) {
		if eq, ne := num.Do(api.Eq, a, b), num.Do(api.Ne, a, b); eq+ne != 1 || num.One(api.Not, eq) != ne {
			t.Errorf("%d and %d: == %d, != %d", a, b, eq, ne)
		}
		if lt, le := num.Do(api.Lt, a, b), num.Do(api.Le, b, a); lt+le != 1 || num.One(api.Not, lt) != le {
			t.Errorf("%d and %d: < %d, the other way round <= %d", a, b, lt, le)
		}
	})
}
