package expr_test

import (
	"math"
	"math/rand"
	"reflect"
	"slices"
	"strconv"
	"strings"
	"testing"

	"troth/api"
	"troth/expr"
)

const most = math.MaxUint64

func n(v uint64) *expr.Expr      { return &expr.Expr{Kind: expr.Num, N: v} }
func reg(i uint8) *expr.Expr     { return &expr.Expr{Kind: expr.Reg, I: i} }
func of(t, i uint8) *expr.Expr   { return &expr.Expr{Kind: expr.Of, T: t, I: i} }
func loc(letter byte) *expr.Expr { return &expr.Expr{Kind: expr.Loc, X: letter} }

func one(op uint8, part *expr.Expr) *expr.Expr {
	return &expr.Expr{Kind: expr.One, Op: op, L: part}
}

func two(op uint8, left, right *expr.Expr) *expr.Expr {
	return &expr.Expr{Kind: expr.Two, Op: op, L: left, R: right}
}

// row is what the document says of an operation.
type row struct {
	op       uint8
	sign     string
	sides    int
	strength int
}

func rows() []row {
	return []row{
		{api.Eq, "==", 2, 1}, {api.Ne, "!=", 2, 1}, {api.Lt, "<", 2, 1}, {api.Le, "<=", 2, 1},
		{api.Add, "+", 2, 2}, {api.Sub, "-", 2, 2}, {api.Or, "|", 2, 2}, {api.Xor, "^", 2, 2},
		{api.Mul, "*", 2, 3}, {api.Div, "/", 2, 3}, {api.Rem, "%", 2, 3}, {api.And, "&", 2, 3},
		{api.Not, "!", 1, 4}, {api.Neg, "-", 1, 4},
	}
}

// rowOf is an operation's row; of what is none a zero one.
func rowOf(op uint8) row {
	for _, r := range rows() {
		if r.op == op {
			return r
		}
	}
	return row{}
}

// allLeaves are all leaves but numbers, and numbers at the edges.
func allLeaves() []*expr.Expr {
	l := []*expr.Expr{n(0), n(1), n(7), n(10), n(1 << 63), n(most)}
	for i := uint8(0); i < api.Registers; i++ {
		l = append(l, reg(i))
		for t := uint8(0); t < api.MaxThreads; t++ {
			l = append(l, of(t, i))
		}
	}
	for letter := byte('a'); letter <= 'z'; letter++ {
		if letter != 'r' {
			l = append(l, loc(letter))
		}
	}
	return l
}

// over are all operations over these parts.
func over(parts []*expr.Expr) []*expr.Expr {
	var l []*expr.Expr
	for _, r := range rows() {
		for _, a := range parts {
			if r.sides == 1 {
				l = append(l, one(r.op, a))
				continue
			}
			for _, b := range parts {
				l = append(l, two(r.op, a, b))
			}
		}
	}
	return l
}

// chosen is an expression by chance, of at most so much depth.
func chosen(r *rand.Rand, most int) *expr.Expr {
	if most <= 1 || r.Intn(5) == 0 {
		l := allLeaves()
		return l[r.Intn(len(l))]
	}
	op := rows()[r.Intn(len(rows()))]
	if op.sides == 1 {
		return one(op.op, chosen(r, most-1))
	}
	return two(op.op, chosen(r, most-1), chosen(r, most-1))
}

// full is as wide an expression as can be of this depth; its leaves are numbers that count on.
func full(depth int, next *uint64) *expr.Expr {
	if depth == 1 {
		*next++
		return n(*next)
	}
	left := full(depth-1, next)
	return two(api.Sub, left, full(depth-1, next))
}

// chains are expressions of this depth, one operation over the other on each side there is.
func chains(depth int) map[string]*expr.Expr {
	m := map[string]*expr.Expr{"one": reg(1), "left": reg(1), "right": reg(1), "both": reg(1), "turns": reg(1)}
	for i := 1; i < depth; i++ {
		m["one"] = one(api.Neg, m["one"])
		m["left"] = two(api.Add, m["left"], n(2))
		m["right"] = two(api.Mul, n(2), m["right"])
		m["both"] = two(api.Xor, m["both"], m["both"])
		switch i % 3 {
		case 0:
			m["turns"] = one(api.Not, m["turns"])
		case 1:
			m["turns"] = two(api.Sub, m["turns"], n(3))
		case 2:
			m["turns"] = two(api.Sub, n(3), m["turns"])
		}
	}
	return m
}

// wrong are expressions that may not be, whatever else holds, by what is wrong of them.
func wrong() map[string]*expr.Expr {
	m := map[string]*expr.Expr{
		"nil":            nil,
		"register":       reg(api.Registers),
		"thread":         of(api.MaxThreads, 0),
		"its register":   of(0, api.Registers),
		"letter r":       loc('r'),
		"great letter":   loc('X'),
		"no letter":      {Kind: expr.Loc},
		"One of nil":     one(api.Not, nil),
		"left nil":       two(api.Add, nil, n(1)),
		"right nil":      two(api.Add, n(1), nil),
		"both nil":       two(api.Add, nil, nil),
		"One, right":     {Kind: expr.One, Op: api.Neg, R: n(1)},
		"One, two parts": {Kind: expr.One, Op: api.Neg, L: n(1), R: n(1)},
		"One of two":     one(api.Add, n(1)),
		"Two of one":     two(api.Neg, n(1), n(2)),
		"no One":         one(0, n(1)),
		"no Two":         two(0, n(1), n(2)),
		"no kind":        {Kind: expr.Two + 1},
		"kind and parts": {Kind: expr.Two + 1, Op: api.Add, L: n(1), R: n(2)},
		"last kind":      {Kind: 255, Op: api.Neg, L: n(1)},
	}
	for name, e := range chains(api.MaxDepth + 1) {
		m["too deep "+name] = e
	}
	for name, e := range endless() {
		m["endless "+name] = e
	}
	for name, e := range tooMuch() {
		m["too much: "+name] = e
	}
	return m
}

// endless are expressions that stand in themselves.
func endless() map[string]*expr.Expr {
	m := map[string]*expr.Expr{"one": one(api.Not, nil), "left": two(api.Add, nil, n(1)), "right": two(api.Add, n(1), nil), "both": two(api.Add, nil, nil), "far": one(api.Neg, two(api.Sub, n(1), nil))}
	m["one"].L = m["one"]
	m["left"].L = m["left"]
	m["right"].R = m["right"]
	m["both"].L, m["both"].R = m["both"], m["both"]
	m["far"].L.R = m["far"]
	return m
}

// tooMuch are expressions that may be, but for one thing that their kind does not have.
func tooMuch() map[string]*expr.Expr {
	has := map[string]string{"N": "N", "Reg": "I", "Of": "TI", "Loc": "X", "One": "Op L", "Two": "Op L R"}
	m := map[string]*expr.Expr{}
	for kind, e := range map[string]*expr.Expr{"N": n(3), "Reg": reg(3), "Of": of(3, 3), "Loc": loc('x'), "One": one(api.Not, n(3)), "Two": two(api.Add, n(3), n(4))} {
		for part, put := range map[string]func(e *expr.Expr){
			"Op": func(e *expr.Expr) { e.Op = api.Neg },
			"N":  func(e *expr.Expr) { e.N = 1 },
			"T":  func(e *expr.Expr) { e.T = 1 },
			"I":  func(e *expr.Expr) { e.I = 1 },
			"X":  func(e *expr.Expr) { e.X = 'x' },
			"L":  func(e *expr.Expr) { e.L = n(1) },
			"R":  func(e *expr.Expr) { e.R = n(1) },
		} {
			if !strings.Contains(has[kind], part) {
				c := *e
				put(&c)
				m[kind+" with "+part] = &c
			}
		}
	}
	return m
}

// copied is an expression of new parts all through.
func copied(e *expr.Expr) *expr.Expr {
	if e == nil {
		return nil
	}
	c := *e
	c.L, c.R = copied(e.L), copied(e.R)
	return &c
}

// isNothing holds an expression that may not be against what is said of it.
func isNothing(t *testing.T, name string, e *expr.Expr) {
	t.Helper()
	if e.May() {
		t.Errorf("%s: it may not be", name)
	}
	if s := e.Text(); s != "" {
		t.Errorf("%s: written %.60q", name, s)
	}
	told := 0
	if v := e.Eval(func(expr.Expr) uint64 { told++; return 5 }); v != 0 || told != 0 {
		t.Errorf("%s: it comes to %d, by %d leaves", name, v, told)
	}
	e.Walk(func(expr.Expr) { told++ })
	if told != 0 {
		t.Errorf("%s: %d leaves told", name, told)
	}
	if expr.Same(e, e) || expr.Same(e, n(1)) || expr.Same(n(1), e) || expr.Same(nil, e) || expr.Same(e, nil) {
		t.Errorf("%s: it is like something", name)
	}
}

// leavesOf are the leaves as Walk tells them.
func leavesOf(e *expr.Expr) []expr.Expr {
	var l []expr.Expr
	e.Walk(func(x expr.Expr) { l = append(l, x) })
	return l
}

// writes holds an expression against a text.
func writes(t *testing.T, e *expr.Expr, want string) {
	t.Helper()
	if !e.May() {
		t.Errorf("%s: it may be", want)
	}
	if s := e.Text(); s != want {
		t.Errorf("written %q, not %q", s, want)
	}
}

// The kinds count on from 0.
func TestKinds(t *testing.T) {
	if expr.Num != 0 || expr.Reg != 1 || expr.Of != 2 || expr.Loc != 3 || expr.One != 4 || expr.Two != 5 {
		t.Error("kinds")
	}
}

// P3.2, as the chapter's examples show it.
func TestExamples(t *testing.T) {
	writes(t, two(api.Mul, two(api.Add, n(1), reg(0)), n(2)), "(1 + r0) * 2")
	writes(t, two(api.Sub, n(1), two(api.Sub, n(2), n(3))), "1 - (2 - 3)")
	writes(t, one(api.Not, two(api.Eq, of(0, 1), loc('x'))), "!(0:r1 == x)")
}

// P3.1: leaves of all numbers, registers, threads and bytes there are.
func TestMayOfLeaves(t *testing.T) {
	for i := range 256 {
		b := uint8(i)
		if got, want := reg(b).May(), i <= 7; got != want {
			t.Errorf("r%d: %t", i, got)
		}
		for j := range 256 {
			if got, want := of(b, uint8(j)).May(), i <= 3 && j <= 7; got != want {
				t.Errorf("%d:r%d: %t", i, j, got)
			}
		}
		if got, want := loc(b).May(), strings.IndexByte("abcdefghijklmnopqstuvwxyz", b) >= 0; got != want {
			t.Errorf("location of byte %d: %t", i, got)
		}
		e := &expr.Expr{Kind: b}
		if got, want := e.May(), i <= 2; got != want {
			t.Errorf("kind %d by itself: %t", i, got)
		}
	}
	for _, v := range []uint64{0, 1, 1 << 32, 1 << 63, most} {
		if !n(v).May() {
			t.Errorf("%d may be", v)
		}
	}
}

// P3.1: operations of all numbers there are, over as many parts as they say.
func TestMayOfOperations(t *testing.T) {
	for i := range 256 {
		op := uint8(i)
		if got, want := one(op, n(1)).May(), rowOf(op).sides == 1; got != want {
			t.Errorf("operation %d over one part: %t", i, got)
		}
		if got, want := two(op, n(1), reg(2)).May(), rowOf(op).sides == 2; got != want {
			t.Errorf("operation %d over two parts: %t", i, got)
		}
		for _, e := range []*expr.Expr{one(op, nil), two(op, nil, n(1)), two(op, n(1), nil), two(op, nil, nil), {Kind: expr.One, Op: op, R: n(1)}, {Kind: expr.One, Op: op, L: n(1), R: n(1)}} {
			if e.May() {
				t.Errorf("operation %d with too few or too many parts may not be: %v", i, *e)
			}
		}
	}
}

// P3.1 to P3.3: of what may not be there is nothing, wherever in an expression it stands.
func TestNothing(t *testing.T) {
	for name, e := range wrong() {
		isNothing(t, name, e)
		isNothing(t, name+", not", one(api.Not, e))
		isNothing(t, name+", on the left", two(api.Add, e, n(1)))
		isNothing(t, name+", on the right", two(api.Add, n(1), e))
		isNothing(t, name+", deep on the right", two(api.Add, n(1), one(api.Neg, two(api.Mul, n(1), e))))
		isNothing(t, name+", deep on the left", two(api.Add, two(api.Mul, one(api.Neg, e), n(1)), n(1)))
	}
}

// P3.1: up to MaxDepth it may be; what is deeper is told as one deeper, and may not be.
func TestDepth(t *testing.T) {
	for depth := 1; depth <= api.MaxDepth+8; depth++ {
		for name, e := range chains(depth) {
			if got, want := e.Depth(), min(depth, 13); got != want {
				t.Errorf("%s of depth %d: %d", name, depth, got)
			}
			if got, want := e.May(), depth <= 12; got != want {
				t.Errorf("%s of depth %d may be: %t", name, depth, got)
			}
		}
	}
	for name, e := range endless() {
		if got := e.Depth(); got != 13 {
			t.Errorf("endless %s: %d", name, got)
		}
	}
	for _, e := range allLeaves() {
		if e.Depth() != 1 {
			t.Errorf("a leaf is %d deep", e.Depth())
		}
	}
	for _, c := range []struct {
		e    *expr.Expr
		want int
	}{
		{nil, 0}, {one(api.Not, nil), 1}, {two(api.Add, nil, nil), 1}, {two(api.Add, n(1), nil), 2}, {two(api.Add, nil, n(1)), 2},
		{two(api.Add, n(1), one(api.Neg, n(2))), 3}, {two(api.Add, one(api.Neg, n(2)), n(1)), 3}, {two(api.Add, one(api.Neg, n(2)), two(api.Mul, n(1), one(api.Not, n(3)))), 4},
		{one(99, reg(200)), 2}, {two(0, loc('r'), of(9, 9)), 2}, // what may not be is deep all the same
	} {
		if got := c.e.Depth(); got != c.want {
			t.Errorf("%v is %d deep, not %d", c.e, got, c.want)
		}
	}
}

// P3.1: an expression is like its copy, and like no other one.
func TestSame(t *testing.T) {
	l := slices.Concat(allLeaves(), over([]*expr.Expr{n(1), n(2), reg(1), reg(2)}), over([]*expr.Expr{of(1, 2), of(2, 1)}), over([]*expr.Expr{loc('x'), one(api.Neg, n(1)), one(api.Not, n(1))}))
	for i, a := range l {
		c := copied(a)
		for j, b := range l {
			if got := expr.Same(c, b); got != (i == j) {
				t.Fatalf("%s and %s are alike: %t", a.Text(), b.Text(), got)
			}
		}
	}
	if expr.Same(nil, nil) {
		t.Error("nil is like none, nil too")
	}
}

// P3.1: one change anywhere, however deep, makes it unlike; where its parts lie does not.
func TestSameOfDeep(t *testing.T) {
	for name, e := range chains(api.MaxDepth) {
		c := copied(e)
		if !expr.Same(e, c) || !expr.Same(c, e) || !expr.Same(e, e) {
			t.Errorf("%s is like its copy", name)
		}
		deepest := c
		for deepest.L != nil {
			if deepest.R.Depth() > deepest.L.Depth() {
				deepest = deepest.R
			} else {
				deepest = deepest.L
			}
		}
		if deepest.Kind == expr.Num {
			deepest.N++
		} else {
			deepest.I++
		}
		if expr.Same(e, c) || expr.Same(c, e) || !c.May() {
			t.Errorf("%s is unlike that of another leaf", name)
		}
	}
	part := two(api.Add, n(1), reg(1))
	if !expr.Same(two(api.Mul, part, part), two(api.Mul, copied(part), copied(part))) {
		t.Error("a part that stands twice is like two that are alike")
	}
	if expr.Same(two(api.Sub, n(1), n(2)), two(api.Sub, n(2), n(1))) || expr.Same(two(api.Add, n(1), n(2)), two(api.Add, n(2), n(1))) {
		t.Error("left and right are not alike")
	}
}

// P3.2: leaves in their letters.
func TestTextOfLeaves(t *testing.T) {
	for v, want := range map[uint64]string{0: "0", 7: "7", 10: "10", 1 << 63: "9223372036854775808", most: "18446744073709551615"} {
		writes(t, n(v), want)
	}
	for i, digit := range []string{"0", "1", "2", "3", "4", "5", "6", "7"} {
		writes(t, reg(uint8(i)), "r"+digit)
		for j, thread := range []string{"0", "1", "2", "3"} {
			writes(t, of(uint8(j), uint8(i)), thread+":r"+digit)
		}
	}
	for _, letter := range "abcdefghijklmnopqstuvwxyz" {
		writes(t, loc(byte(letter)), string(letter))
	}
}

// P3.2: each operation in each other one, on each side: parentheses hang on strength alone.
func TestParentheses(t *testing.T) {
	in := func(text string, yes bool) string {
		if yes {
			return "(" + text + ")"
		}
		return text
	}
	for _, o := range rows() {
		for _, i := range rows() {
			part, text := two(i.op, reg(1), loc('y')), "r1 "+i.sign+" y"
			if i.sides == 1 {
				part, text = one(i.op, reg(1)), i.sign+"r1"
			}
			if o.sides == 1 {
				writes(t, one(o.op, part), o.sign+in(text, i.strength < o.strength))
				continue
			}
			left, right := in(text, i.strength < o.strength), in(text, i.strength <= o.strength)
			writes(t, two(o.op, part, n(2)), left+" "+o.sign+" 2")
			writes(t, two(o.op, n(2), part), "2 "+o.sign+" "+right)
			writes(t, two(o.op, part, copied(part)), left+" "+o.sign+" "+right)
		}
	}
}

// P3.2: some of them, in full.
func TestTextOfOperations(t *testing.T) {
	writes(t, two(api.Sub, two(api.Sub, n(1), n(2)), n(3)), "1 - 2 - 3")
	writes(t, two(api.Sub, two(api.Add, n(1), n(2)), n(3)), "1 + 2 - 3")
	writes(t, two(api.Add, n(1), two(api.Add, n(2), n(3))), "1 + (2 + 3)")
	writes(t, two(api.Eq, two(api.Eq, n(1), n(2)), n(3)), "1 == 2 == 3")
	writes(t, two(api.Eq, n(1), two(api.Lt, n(2), n(3))), "1 == (2 < 3)")
	writes(t, two(api.And, two(api.Eq, of(0, 1), n(1)), two(api.Eq, of(1, 1), n(0))), "(0:r1 == 1) & (1:r1 == 0)")
	writes(t, two(api.Or, two(api.And, loc('a'), loc('b')), two(api.And, loc('c'), loc('d'))), "a & b | c & d")
	writes(t, two(api.Add, n(1), two(api.Mul, reg(0), n(0))), "1 + r0 * 0")
	writes(t, two(api.Sub, n(1), one(api.Neg, n(1))), "1 - -1")
	writes(t, two(api.Sub, one(api.Neg, n(1)), n(1)), "-1 - 1")
	writes(t, one(api.Neg, one(api.Neg, n(1))), "--1")
	writes(t, one(api.Not, one(api.Not, one(api.Neg, loc('z')))), "!!-z")
	writes(t, one(api.Neg, two(api.Mul, n(1), n(2))), "-(1 * 2)")
	writes(t, one(api.Not, two(api.Add, one(api.Not, two(api.Eq, n(1), n(2))), n(3))), "!(!(1 == 2) + 3)")
	writes(t, two(api.Sub, n(1), two(api.Mul, n(2), two(api.Add, two(api.Sub, n(1), two(api.Mul, n(2), two(api.Add, reg(1), n(3)))), n(3)))), "1 - 2 * (1 - 2 * (r1 + 3) + 3)")
	most := chains(api.MaxDepth)
	writes(t, most["one"], strings.Repeat("-", 11)+"r1")
	writes(t, most["left"], "r1"+strings.Repeat(" + 2", 11))
	writes(t, most["right"], strings.Repeat("2 * (", 10)+"2 * r1"+strings.Repeat(")", 10))
}

// P3.3: what it comes to, by what its leaves come to.
func TestEval(t *testing.T) {
	leaf := func(x expr.Expr) uint64 {
		switch x.Kind {
		case expr.Reg:
			return 10 + uint64(x.I)
		case expr.Of:
			return 100*uint64(x.T) + uint64(x.I)
		case expr.Loc:
			return 1000 + uint64(x.X)
		}
		return 77
	}
	for _, c := range []struct {
		e    *expr.Expr
		want uint64
	}{
		{n(0), 0}, {n(5), 5}, {n(most), most}, {reg(7), 17}, {of(3, 7), 307}, {loc('a'), 1097},
		{one(api.Not, n(0)), 1}, {one(api.Not, n(5)), 0}, {one(api.Neg, n(1)), most}, {one(api.Neg, reg(0)), most - 9},
		{two(api.Eq, reg(1), n(11)), 1}, {two(api.Ne, reg(1), n(11)), 0}, {two(api.Lt, n(1), n(2)), 1}, {two(api.Lt, n(2), n(1)), 0}, {two(api.Le, n(2), n(2)), 1}, {two(api.Le, n(3), n(2)), 0},
		{two(api.Add, n(most), n(2)), 1}, {two(api.Sub, n(0), n(1)), most}, {two(api.Sub, n(1), n(0)), 1}, {two(api.Or, n(6), n(3)), 7}, {two(api.Xor, n(6), n(3)), 5}, {two(api.And, n(6), n(3)), 2},
		{two(api.Mul, n(1<<63), n(3)), 1 << 63}, {two(api.Div, n(7), n(2)), 3}, {two(api.Div, n(2), n(7)), 0}, {two(api.Div, n(7), n(0)), 0}, {two(api.Rem, n(7), n(2)), 1}, {two(api.Rem, n(7), n(0)), 0},
		{two(api.Mul, two(api.Add, n(1), reg(0)), n(2)), 22},
		{two(api.Sub, n(1), two(api.Sub, n(2), n(3))), 2},
		{two(api.Sub, two(api.Sub, n(9), n(2)), n(3)), 4},
		{two(api.Div, two(api.Sub, n(100), one(api.Neg, n(1))), two(api.Sub, n(7), n(5))), 50},
		{one(api.Not, two(api.Eq, of(0, 1), loc('x'))), 1},
		{two(api.Mul, n(0), loc('x')), 0},
	} {
		if got := c.e.Eval(leaf); got != c.want {
			t.Errorf("%s comes to %d, not %d", c.e.Text(), got, c.want)
		}
	}
}

// answer is what the document says of an operation's answer, by the language's own operators.
func answer(op uint8, a, b uint64) uint64 {
	truth := map[bool]uint64{true: 1}
	switch op {
	case api.Eq:
		return truth[a == b]
	case api.Ne:
		return truth[a != b]
	case api.Lt:
		return truth[a < b]
	case api.Le:
		return truth[a <= b]
	case api.Add:
		return a + b
	case api.Sub:
		return a - b
	case api.Or:
		return a | b
	case api.Xor:
		return a ^ b
	case api.Mul:
		return a * b
	case api.And:
		return a & b
	case api.Not:
		return truth[a == 0]
	case api.Neg:
		return -a
	}
	if b == 0 {
		return 0
	}
	if op == api.Div {
		return a / b
	}
	return a % b
}

// cameTo is what an expression comes to, and its leaves from left to right.
func cameTo(e *expr.Expr, leaf func(x expr.Expr) uint64) (uint64, []expr.Expr) {
	if e.L == nil {
		if e.Kind == expr.Num {
			return e.N, []expr.Expr{*e}
		}
		return leaf(*e), []expr.Expr{*e}
	}
	a, l := cameTo(e.L, leaf)
	if e.R == nil {
		return answer(e.Op, a, 0), l
	}
	b, m := cameTo(e.R, leaf)
	return answer(e.Op, a, b), append(l, m...)
}

// P3.3: any expressions: Eval asks of each leaf that is no number, Walk tells each leaf, both from left to right.
func TestEvalAndWalkOfAny(t *testing.T) {
	r := rand.New(rand.NewSource(1))
	number := func(x expr.Expr) uint64 { return uint64(x.Kind) + 3*uint64(x.I) + 64*uint64(x.T) + uint64(x.X)%5 }
	for range 5000 {
		e := chosen(r, 1+r.Intn(api.MaxDepth/2))
		want, leaves := cameTo(e, number)
		var asked []expr.Expr
		got := e.Eval(func(x expr.Expr) uint64 { asked = append(asked, x); return number(x) })
		if got != want {
			t.Fatalf("%s comes to %d, not %d", e.Text(), got, want)
		}
		if l := leavesOf(e); !slices.Equal(l, leaves) {
			t.Fatalf("%s: leaves %v, not %v", e.Text(), l, leaves)
		}
		others := slices.DeleteFunc(leaves, func(x expr.Expr) bool { return x.Kind == expr.Num })
		if !slices.Equal(asked, others) {
			t.Fatalf("%s: asked of %v, not of %v", e.Text(), asked, others)
		}
	}
}

// P3.3: the left part goes first: an answer may hang on what was asked ahead.
func TestLeftFirst(t *testing.T) {
	asked := uint64(0)
	next := func(expr.Expr) uint64 { asked++; return asked }
	e := two(api.Sub, two(api.Mul, reg(0), reg(1)), two(api.Sub, reg(2), one(api.Neg, reg(3))))
	if got := e.Eval(next); got != most-4 { // 1 * 2 - (3 - -4)
		t.Errorf("%d", got)
	}
	if got := two(api.Sub, loc('x'), loc('x')).Eval(next); got != most || asked != 6 { // 5 - 6: each asked once
		t.Errorf("%d, asked %d times", got, asked)
	}
}

// P3.1 to P3.3: as wide an expression as may be, and one deeper.
func TestWidest(t *testing.T) {
	count := uint64(0)
	e := full(api.MaxDepth, &count)
	l := leavesOf(e)
	for i, x := range l {
		if x != *n(uint64(i + 1)) {
			t.Fatalf("leaf %d is %v", i, x)
		}
	}
	if len(l) != 1<<11 || !e.May() || e.Depth() != 12 || !expr.Same(e, copied(e)) {
		t.Errorf("%d leaves, %d deep", len(l), e.Depth())
	}
	if back, rest := read(e.Text()); rest != "" || !reflect.DeepEqual(back, e) {
		t.Errorf("%.80q", e.Text())
	}
	if got, _ := cameTo(e, nil); e.Eval(nil) != got {
		t.Errorf("%d, not %d", e.Eval(nil), got)
	}
	isNothing(t, "one deeper", full(api.MaxDepth+1, &count))
}

// P3.4: all numbers there are, those that are no operation, too.
func TestStrength(t *testing.T) {
	for i := range 256 {
		if got, want := expr.Strength(uint8(i)), rowOf(uint8(i)).strength; got != want {
			t.Errorf("Strength(%d) is %d, not %d", i, got, want)
		}
	}
}

// read is the expression at a text's beginning, as the document has it bind, and what stands behind.
func read(text string) (*expr.Expr, string) { return readOver(text, 1) }

// readOver reads signs of this strength and stronger ones.
func readOver(text string, strength int) (*expr.Expr, string) {
	if strength == 4 {
		return readPart(text)
	}
	e, rest := readOver(text, strength+1)
	for {
		sign, behind, ok := strings.Cut(strings.TrimPrefix(rest, " "), " ")
		r, is := signed(sign, 2)
		if !ok || !is || !strings.HasPrefix(rest, " ") || r.strength != strength {
			return e, rest
		}
		var right *expr.Expr
		right, rest = readOver(behind, strength+1)
		e = two(r.op, e, right)
	}
}

func readPart(text string) (*expr.Expr, string) {
	if text == "" {
		return nil, ""
	}
	if r, is := signed(text[:1], 1); is {
		part, rest := readPart(text[1:])
		return one(r.op, part), rest
	}
	if text[0] == '(' {
		e, rest := read(text[1:])
		return e, strings.TrimPrefix(rest, ")")
	}
	i := strings.IndexFunc(text, func(r rune) bool { return !strings.ContainsRune("0123456789abcdefghijklmnopqrstuvwxyz:", r) })
	if i < 0 {
		i = len(text)
	}
	return readLeaf(text[:i]), text[i:]
}

func readLeaf(word string) *expr.Expr {
	if thread, register, is := strings.Cut(word, ":r"); is {
		t, _ := strconv.Atoi(thread)
		i, _ := strconv.Atoi(register)
		return of(uint8(t), uint8(i))
	}
	if v, err := strconv.ParseUint(word, 10, 64); err == nil {
		return n(v)
	}
	if len(word) == 1 {
		return loc(word[0])
	}
	i, _ := strconv.Atoi(strings.TrimPrefix(word, "r"))
	return reg(uint8(i))
}

func signed(sign string, sides int) (row, bool) {
	for _, r := range rows() {
		if r.sign == sign && r.sides == sides {
			return r, true
		}
	}
	return row{}, false
}

// P3.5: all small expressions over a few leaves are written differently, and each is what its text says.
func TestWrittenUnlike(t *testing.T) {
	first := []*expr.Expr{n(1), reg(1), of(1, 1), loc('s')}
	second := slices.Concat(first[:1], over(first[:1]))
	third := slices.Concat(first[1:3], over(second))
	texts := map[string]*expr.Expr{}
	for _, e := range slices.Concat(allLeaves(), over(first), over(second), over(third[:40])) {
		s := e.Text()
		if o := texts[s]; s == "" || o != nil && !expr.Same(o, e) {
			t.Fatalf("%q: two that are unlike, or nothing", s)
		}
		texts[s] = e
		if back, rest := read(s); rest != "" || !expr.Same(back, e) {
			t.Fatalf("%q is not what was written", s)
		}
	}
}

// P3.2, P3.5: any expression is what its text says.
func TestWrittenAndRead(t *testing.T) {
	r := rand.New(rand.NewSource(2))
	for range 2000 {
		e := chosen(r, 1+r.Intn(api.MaxDepth))
		s := e.Text()
		back, rest := read(s)
		if rest != "" || !reflect.DeepEqual(back, e) || !expr.Same(back, e) || back.Text() != s {
			t.Fatalf("%q is not what was written", s)
		}
	}
}

// R1: calls without a function to tell leaves to end too: of such leaves nobody says anything but 0.
func TestNobodyToTell(t *testing.T) {
	e := two(api.Add, n(5), two(api.Mul, reg(1), n(3)))
	e.Walk(nil)
	if got := e.Eval(nil); got != 5 {
		t.Errorf("%d", got)
	}
	for name, e := range wrong() {
		e.Walk(nil)
		if got := e.Eval(nil); got != 0 {
			t.Errorf("%s: %d", name, got)
		}
	}
}

// R2, R3: no call changes an expression, nor does what a caller does with leaves; the same call answers the same again.
func TestNothingChanges(t *testing.T) {
	r := rand.New(rand.NewSource(3))
	for range 200 {
		e := chosen(r, 6)
		c := copied(e)
		text := e.Text()
		spoil := func(x expr.Expr) uint64 {
			x.Kind, x.I, x.N, x.L = 200, 200, 200, &x
			return 1
		}
		value := e.Eval(spoil)
		e.Walk(func(x expr.Expr) { spoil(x) })
		e.May()
		e.Depth()
		expr.Same(e, c)
		if !reflect.DeepEqual(e, c) || e.Text() != text || e.Eval(spoil) != value {
			t.Fatalf("%q was changed", text)
		}
	}
}
