package check_test

import (
	"math"
	"reflect"
	"slices"
	"strconv"
	"strings"
	"testing"

	"troth/api"
	"troth/check"
	"troth/expr"
	"troth/prog"
)

const most = math.MaxUint64

type block = []prog.Stmt

func n(v uint64) *expr.Expr      { return &expr.Expr{Kind: expr.Num, N: v} }
func reg(i uint8) *expr.Expr     { return &expr.Expr{Kind: expr.Reg, I: i} }
func of(t, i uint8) *expr.Expr   { return &expr.Expr{Kind: expr.Of, T: t, I: i} }
func loc(letter byte) *expr.Expr { return &expr.Expr{Kind: expr.Loc, X: letter} }

func one(op uint8, part *expr.Expr) *expr.Expr {
	return &expr.Expr{Kind: expr.One, Op: op, L: part}
}

func two(op uint8, left, right *expr.Expr) *expr.Expr {
	return &expr.Expr{Kind: expr.Two, Op: op, L: left, R: right}
}

func set(i uint8, a *expr.Expr) prog.Stmt { return prog.Stmt{Kind: prog.Set, Reg: i, A: a} }

func store(x byte) prog.Stmt { return prog.Stmt{Kind: prog.Store, Loc: x, A: n(1), Mode: api.Rlx} }

func ifs(then, els block) prog.Stmt {
	return prog.Stmt{Kind: prog.If, A: reg(0), Then: then, Else: els}
}

func while(then block) prog.Stmt { return prog.Stmt{Kind: prog.While, A: reg(0), Then: then} }

// thread is a test of one thread, that asks for 1.
func thread(l ...prog.Stmt) prog.Test { return prog.Test{Threads: []block{l}, Ask: n(1)} }

// asks is a test of so many threads without statements.
func asks(threads int, e *expr.Expr) prog.Test {
	return prog.Test{Threads: make([]block, threads), Ask: e}
}

// starts is a test with starting values of these letters, which count on from 1.
func starts(letters string) prog.Test {
	t := thread()
	for i := range len(letters) {
		t.Init = append(t.Init, prog.Init{Loc: letters[i], N: uint64(i + 1)})
	}
	return t
}

// wraps are the ways to stand a block in a statement.
func wraps() map[string]func(l block) prog.Stmt {
	return map[string]func(l block) prog.Stmt{
		"then":  func(l block) prog.Stmt { return ifs(l, nil) },
		"else":  func(l block) prog.Stmt { return ifs(nil, l) },
		"other": func(l block) prog.Stmt { return ifs(block{set(1, n(1))}, l) },
		"loop":  func(l block) prog.Stmt { return while(l) },
	}
}

// nested is a block of so many blocks in one another; the deepest one is inner.
func nested(deep int, wrap func(l block) prog.Stmt, inner block) block {
	l := inner
	for range deep - 1 {
		l = block{set(0, n(1)), wrap(l)}
	}
	return l
}

// ofEach are statements that may be, one of each kind, with x where a location stands.
func ofEach() []prog.Stmt {
	return []prog.Stmt{
		{Kind: prog.Set, Reg: 1, A: n(1)},
		{Kind: prog.Load, Reg: 1, Loc: 'x', Mode: api.Acq},
		{Kind: prog.Store, Loc: 'x', A: n(1), Mode: api.Rel},
		{Kind: prog.Swap, Reg: 1, Loc: 'x', A: n(1), Mode: api.Ar},
		{Kind: prog.Add, Reg: 1, Loc: 'x', A: n(1), Mode: api.Ar},
		{Kind: prog.Cas, Reg: 1, Loc: 'x', A: n(1), B: n(2), Mode: api.Ar},
		{Kind: prog.Fence, Mode: api.Sc},
		{Kind: prog.If, A: n(1), Then: block{{Kind: prog.Set, A: n(1)}}, Else: block{{Kind: prog.Set, A: n(1)}}},
		{Kind: prog.While, A: n(1), Then: block{{Kind: prog.Set, A: n(1)}}},
	}
}

// letterOf is a statement's location, if it names one.
func letterOf(s prog.Stmt) string {
	if s.Loc == 0 {
		return ""
	}
	return string([]byte{s.Loc})
}

// partsOf is what the document says that a kind has.
func partsOf(kind uint8) []string {
	return strings.Fields(map[uint8]string{
		prog.Set: "reg A", prog.Load: "reg loc mode", prog.Store: "loc A mode", prog.Swap: "reg loc A mode", prog.Add: "reg loc A mode",
		prog.Cas: "reg loc A B mode", prog.Fence: "mode", prog.If: "A then else", prog.While: "A then",
	}[kind])
}

// modesOf is what the document says of the modes that a kind may have.
func modesOf(kind uint8) []uint8 {
	switch kind {
	case prog.Load:
		return []uint8{api.Pln, api.Rlx, api.Acq}
	case prog.Store:
		return []uint8{api.Pln, api.Rlx, api.Rel}
	case prog.Swap, prog.Add, prog.Cas:
		return []uint8{api.Rlx, api.Acq, api.Rel, api.Ar}
	case prog.Fence:
		return []uint8{api.Acq, api.Rel, api.Ar, api.Sc}
	}
	return nil
}

func has(kind uint8, part string) bool { return slices.Contains(partsOf(kind), part) }

// is holds a test's locations against letters.
func is(t *testing.T, name string, test prog.Test, want string) {
	t.Helper()
	if got, err := check.Check(test); err != api.OK || got != want {
		t.Errorf("%s: %q, %v, not %q\n%s", name, got, err, want, test.Text())
	}
}

// fails holds a test's fault against an error.
func fails(t *testing.T, name string, test prog.Test, want api.Errno) {
	t.Helper()
	if got, err := check.Check(test); err != want || got != "" {
		t.Errorf("%s: %q, %v, not %v\n%s", name, got, err, want, test.Text())
	}
}

// isOnlyIf holds a test against whether it may be asked.
func isOnlyIf(t *testing.T, name string, test prog.Test, may bool, want string) {
	t.Helper()
	if may {
		is(t, name, test, want)
	} else {
		fails(t, name, test, api.ErrArg)
	}
}

// everywhere holds a statement against whether it may be, wherever it may stand.
func everywhere(t *testing.T, name string, s prog.Stmt, may bool, want string) {
	t.Helper()
	isOnlyIf(t, name, thread(s), may, want)
	isOnlyIf(t, name+", last of two", thread(set(1, n(1)), s), may, want)
	isOnlyIf(t, name+", first of two", thread(s, set(1, n(1))), may, want)
	isOnlyIf(t, name+", in the last thread", prog.Test{Threads: []block{nil, {set(1, n(1))}, {s}}, Ask: n(1)}, may, want)
	isOnlyIf(t, name+", in the first thread", prog.Test{Threads: []block{{s}, nil}, Ask: n(1)}, may, want)
	for where, wrap := range wraps() {
		isOnlyIf(t, name+", in "+where, thread(wrap(block{s})), may, want)
		isOnlyIf(t, name+", last in "+where, thread(wrap(block{set(1, n(1)), s})), may, want)
		isOnlyIf(t, name+", first in "+where, thread(wrap(block{s, set(1, n(1))})), may, want)
	}
}

// P6.1, as the chapter's examples show it.
func TestExamples(t *testing.T) {
	test := thread(store('y'))
	test.Ask = loc('x')
	is(t, "first", test, "xy")
	fails(t, "second", asks(1, of(1, 0)), api.ErrName)
}

// P6.1: each part put, or not, in each kind there is, and in those that are none.
func TestPartsOfKinds(t *testing.T) {
	names := []string{"reg", "loc", "mode", "A", "B", "then", "else"}
	for kind := range 256 {
		kind := uint8(kind)
		for mask := range 1 << len(names) {
			s, may := prog.Stmt{Kind: kind}, kind >= 1 && kind <= 9
			for i, part := range names {
				put := mask>>i&1 == 1
				switch {
				case put:
					may = may && has(kind, part)
				case part != "reg" && part != "then" && part != "else": // r0 is a register, and a block may be empty
					may = may && !has(kind, part)
				}
				if put {
					putPart(&s, part)
				}
			}
			isOnlyIf(t, "kind "+strconv.Itoa(int(kind)), thread(s), may, letterOf(s))
		}
	}
}

// putPart puts one that may be, if the kind has it.
func putPart(s *prog.Stmt, part string) {
	switch part {
	case "reg":
		s.Reg = 7
	case "loc":
		s.Loc = 'y'
	case "mode":
		s.Mode = api.Rel
		if modes := modesOf(s.Kind); len(modes) > 0 {
			s.Mode = modes[0]
		}
	case "A":
		s.A = reg(7)
	case "B":
		s.B = n(most)
	case "then":
		s.Then = block{set(1, n(1))}
	case "else":
		s.Else = block{set(1, n(1))}
	}
}

// P6.1: a statement that may not be is found wherever it stands.
func TestStatementsEverywhere(t *testing.T) {
	for _, s := range ofEach() {
		everywhere(t, "as it is", s, true, letterOf(s))
		for _, part := range []string{"reg", "loc", "mode", "A", "B", "then", "else"} {
			if c := s; !has(s.Kind, part) {
				putPart(&c, part)
				everywhere(t, "too much: "+part, c, false, "")
			}
		}
	}
	everywhere(t, "no kind", prog.Stmt{}, false, "")
	everywhere(t, "kind 10", prog.Stmt{Kind: 10}, false, "")
	everywhere(t, "kind 255", prog.Stmt{Kind: 255, A: n(1)}, false, "")
}

// P6.1, R6: an empty block is like none, also where the kind has none.
func TestEmptyBlocks(t *testing.T) {
	for _, s := range ofEach() {
		s.Then, s.Else = block{}, block{}
		everywhere(t, "empty blocks", s, true, letterOf(s))
	}
	is(t, "empty lists", prog.Test{Init: []prog.Init{}, Threads: []block{{}}, Ask: n(1)}, "")
}

// P6.1: all modes there are, and numbers that are none.
func TestModesOfKinds(t *testing.T) {
	for _, s := range ofEach() {
		for m := range 256 {
			s.Mode = uint8(m)
			may := slices.Contains(modesOf(s.Kind), s.Mode) || !has(s.Kind, "mode") && m == 0
			isOnlyIf(t, "mode", thread(s), may, letterOf(s))
		}
	}
}

// P6.1: all registers there are, and numbers that are none.
func TestRegistersOfKinds(t *testing.T) {
	for _, s := range ofEach() {
		for i := range 256 {
			s.Reg = uint8(i)
			may := i == 0 || i <= 7 && has(s.Kind, "reg")
			isOnlyIf(t, "register", thread(s), may, letterOf(s))
		}
	}
}

// P6.1: all bytes where a location stands: in statements, starting values, the question.
func TestLetters(t *testing.T) {
	for i := range 256 {
		x := byte(i)
		letter := string([]byte{x})
		isOne := strings.Contains("abcdefghijklmnopqstuvwxyz", letter)
		for _, s := range ofEach() {
			want := letter
			if !has(s.Kind, "loc") {
				want = ""
			}
			s.Loc = x
			isOnlyIf(t, "statement", thread(s), has(s.Kind, "loc") && isOne || want == "" && x == 0, want)
		}
		isOnlyIf(t, "starting value", starts(letter), isOne, letter)
		isOnlyIf(t, "starting values", starts("b"+letter), isOne && x != 'b', sorted("b", letter))
		isOnlyIf(t, "question", asks(1, loc(x)), isOne, letter)
		isOnlyIf(t, "deep in the question", asks(1, two(api.Add, n(1), one(api.Not, loc(x)))), isOne, letter)
	}
}

// sorted are the letters of texts, rising, each once.
func sorted(l ...string) string {
	b := []byte(strings.Join(l, ""))
	slices.Sort(b)
	return string(slices.Compact(b))
}

// leftOf is a sum of so many leaves, which is as deep.
func leftOf(count int, leaf *expr.Expr) *expr.Expr {
	e := leaf
	for range count - 1 {
		e = two(api.Add, e, leaf)
	}
	return e
}

// wrongExprs are expressions that may not be, wherever they stand.
func wrongExprs() map[string]*expr.Expr {
	in := one(api.Not, nil)
	in.L = in
	ring := two(api.Add, n(1), nil)
	ring.R = one(api.Neg, ring)
	return map[string]*expr.Expr{
		"nil": nil, "r8": reg(8), "4:r0": of(4, 0), "0:r8": of(0, 8), "r": loc('r'), "X": loc('X'), "no letter": loc(0),
		"One of two": one(api.Add, n(1)), "Two of one": two(api.Neg, n(1), n(1)), "no part": one(api.Not, nil), "no left": two(api.Add, nil, n(1)), "no right": two(api.Add, n(1), nil),
		"no kind": {Kind: 6}, "too much": {Kind: expr.Num, X: 'x'}, "too deep": leftOf(13, n(1)), "endless": in, "ring": ring,
		"within": two(api.Mul, n(1), one(api.Neg, two(api.Sub, n(2), reg(9)))),
	}
}

// P6.1: expressions of statements: those that may not be, and leaves that stand in the question alone.
func TestExpressionsOfStatements(t *testing.T) {
	wrong := wrongExprs()
	for name, leaf := range map[string]*expr.Expr{"0:r1": of(0, 1), "3:r7": of(3, 7), "x": loc('x'), "a": loc('a')} {
		wrong[name] = leaf
		wrong["in One "+name] = one(api.Not, leaf)
		wrong["on the left "+name] = two(api.Add, leaf, n(1))
		wrong["on the right "+name] = two(api.Eq, reg(1), leaf)
		wrong["between "+name] = two(api.Eq, reg(1), two(api.Eq, leaf, n(1)))
		wrong["deep "+name] = two(api.Sub, leftOf(11, n(1)), leaf)
	}
	right := map[string]*expr.Expr{"0": n(0), "most": n(most), "r0": reg(0), "r7": reg(7), "One": one(api.Neg, reg(1)), "Two": two(api.Rem, n(1), two(api.And, reg(2), n(3))), "deep": leftOf(12, reg(3))}
	for _, s := range ofEach() {
		for _, part := range []string{"A", "B"} {
			if !has(s.Kind, part) {
				continue
			}
			for name, e := range right {
				everywhere(t, part+" "+name, withExpr(s, part, e), true, letterOf(s))
			}
			for name, e := range wrong {
				everywhere(t, part+" "+name, withExpr(s, part, e), false, "")
			}
		}
	}
}

func withExpr(s prog.Stmt, part string, e *expr.Expr) prog.Stmt {
	if part == "A" {
		s.A = e
	} else {
		s.B = e
	}
	return s
}

// P6.1: the question: what may not be, and registers of the thread at hand.
func TestQuestion(t *testing.T) {
	wrong := wrongExprs()
	for _, i := range []uint8{0, 7} {
		wrong["r"] = reg(i)
		wrong["!r"] = one(api.Not, reg(i))
		wrong["left"] = two(api.Eq, reg(i), of(0, 0))
		wrong["right"] = two(api.Eq, of(0, 0), reg(i))
		wrong["between"] = two(api.Eq, of(0, 0), two(api.Eq, reg(i), loc('x')))
		for name, e := range wrong {
			fails(t, name, asks(4, e), api.ErrArg)
			test := asks(4, e)
			test.All = true
			fails(t, name, test, api.ErrArg)
		}
	}
	for i := range uint8(api.Registers) {
		is(t, "register", asks(4, two(api.Add, of(0, i), of(3, i))), "")
	}
	is(t, "number", asks(1, n(most)), "")
	is(t, "deep", asks(1, leftOf(12, of(0, 7))), "")
	is(t, "letters", asks(1, two(api.Add, loc('b'), two(api.Mul, loc('a'), loc('b')))), "ab")
	test := asks(1, two(api.Eq, of(0, 0), loc('z')))
	test.All = true
	is(t, "for all", test, "z")
}

// P6.1: the question's threads, those that there are, and those that there are not.
func TestThreadsOfQuestion(t *testing.T) {
	for count := 1; count <= 4; count++ {
		for i := range 256 {
			for _, e := range []*expr.Expr{of(uint8(i), 1), one(api.Not, of(uint8(i), 7)), two(api.Eq, of(uint8(i), 0), n(1)), two(api.Eq, loc('x'), of(uint8(i), 2)), two(api.Eq, of(uint8(i), 0), of(0, 0))} {
				_, err := check.Check(asks(count, e))
				switch {
				case i < count && err != api.OK, i >= count && i < 4 && err != api.ErrName, i >= 4 && err != api.ErrArg:
					t.Errorf("%d threads, %d asked: %v", count, i, err)
				}
			}
		}
	}
	fails(t, "ahead", asks(2, two(api.Add, of(2, 1), of(1, 1))), api.ErrName)
	fails(t, "behind", asks(2, two(api.Add, of(1, 1), of(2, 1))), api.ErrName)
	is(t, "number of no thread", asks(1, two(api.Add, n(3), of(0, 3))), "")
}

// P6.1: starting values: of locations, of each one at most.
func TestStartingValues(t *testing.T) {
	is(t, "one", starts("x"), "x")
	is(t, "none", starts(""), "")
	is(t, "four", starts("zbya"), "abyz")
	for _, letters := range []string{"xx", "xyx", "xyy", "yxx", "aza", "zaaz", "x0", "0x", "rx", "xr", "xX", "x\x00", "xyzar", "abcdea", "{x", "`x", "\xffx"} {
		fails(t, letters, starts(letters), api.ErrArg)
	}
	same := starts("xx")
	same.Init[1].N = same.Init[0].N
	fails(t, "the same number twice", same, api.ErrArg)
	all := starts("abcdefghijklmnopqstuvwxyz")
	fails(t, "all letters", all, api.ErrLimit)
	all.Init = append(all.Init, prog.Init{Loc: 'm'})
	fails(t, "all letters, and one twice", all, api.ErrArg)
}

// P6.1: no threads, MaxThreads threads, and more.
func TestThreads(t *testing.T) {
	for _, threads := range [][]block{nil, {}} {
		fails(t, "no threads", prog.Test{Threads: threads, Ask: n(1)}, api.ErrArg)
		fails(t, "no threads, starting values", prog.Test{Init: starts("x").Init, Threads: threads, Ask: loc('x')}, api.ErrArg)
		fails(t, "no threads, one asked", prog.Test{Threads: threads, Ask: of(0, 0)}, api.ErrArg)
	}
	for count := 1; count <= 9; count++ {
		for _, l := range []block{nil, {}, {store('x')}} {
			test := prog.Test{Threads: slices.Repeat([]block{l}, count), Ask: loc('y')}
			switch {
			case count > 4:
				fails(t, "many", test, api.ErrLimit)
			case len(l) == 0:
				is(t, "few", test, "y")
			default:
				is(t, "few", test, "xy")
			}
		}
	}
}

// P6.1: blocks of the depth MaxNest, and deeper ones, empty and not, in each thread.
func TestDepth(t *testing.T) {
	for name, wrap := range wraps() {
		for deep := 1; deep <= 20; deep++ {
			for _, inner := range []block{nil, {store('x')}} {
				want := ""
				if len(inner) > 0 {
					want = "x"
				}
				l := nested(deep, wrap, inner)
				for _, threads := range [][]block{{l}, {l, nil}, {nil, l}, {nil, nil, nil, l}, {{wrap(nil)}, {wrap(nil)}, l}} {
					test := prog.Test{Threads: threads, Ask: n(1)}
					if deep <= 8 {
						is(t, name, test, want)
					} else {
						fails(t, name, test, api.ErrLimit)
					}
				}
			}
		}
		fails(t, name+" behind others", thread(set(1, n(1)), wrap(nested(7, wrap, nil)), wrap(nested(8, wrap, nil))), api.ErrLimit)
		is(t, name+" one behind the other", thread(slices.Repeat(block{wrap(nested(7, wrap, nil))}, 5)...), "")
	}
}

// R1: a block that stands in itself is deeper than may be.
func TestEndless(t *testing.T) {
	for name, wrap := range wraps() {
		l := block{store('x'), wrap(nil)}
		if name == "loop" || name == "then" {
			l[1].Then = l
		} else {
			l[1].Else = l
		}
		fails(t, name, thread(l...), api.ErrLimit)
		l[0].A = nil
		fails(t, name+", wrong within", thread(l...), api.ErrArg)
	}
	both := block{ifs(nil, nil)}
	both[0].Then, both[0].Else = both, both
	fails(t, "both", prog.Test{Threads: []block{nil, both}, Ask: n(1)}, api.ErrLimit)
}

// P6.1: locations that are named in starting values, statements and the question, up to MaxLocations, and one more.
func TestLocations(t *testing.T) {
	put := map[string]func(t *prog.Test, x byte){
		"start":     func(t *prog.Test, x byte) { t.Init = append(t.Init, prog.Init{Loc: x}) },
		"statement": func(t *prog.Test, x byte) { t.Threads[0] = append(t.Threads[0], store(x)) },
		"last":      func(t *prog.Test, x byte) { t.Threads[3] = append(t.Threads[3], store(x)) },
		"loop":      func(t *prog.Test, x byte) { t.Threads[1] = append(t.Threads[1], while(block{store(x)})) },
		"else":      func(t *prog.Test, x byte) { t.Threads[1] = append(t.Threads[1], ifs(nil, block{store(x)})) },
		"question":  func(t *prog.Test, x byte) { t.Ask = two(api.Add, t.Ask, loc(x)) },
	}
	for a, putA := range put {
		for b, putB := range put {
			for count := range 8 {
				test := asks(4, n(1))
				letters := "qzgasbme"[:count]
				for i := range count {
					if i%2 == 0 {
						putA(&test, letters[i])
					} else {
						putB(&test, letters[i])
					}
				}
				if count <= 4 {
					is(t, a+" and "+b, test, sorted(letters))
				} else {
					fails(t, a+" and "+b, test, api.ErrLimit)
				}
			}
		}
	}
}

// P6.1: of each kind that has a location it is one of the test's; each stands once.
func TestLocationsOfKinds(t *testing.T) {
	var l, twice block
	for _, s := range ofEach() {
		if has(s.Kind, "loc") {
			s.Loc = "efcbad"[s.Kind-prog.Load]
			is(t, "alone", thread(s), string(rune(s.Loc)))
			l = append(l, s)
		}
	}
	is(t, "four of them", thread(l[1:]...), "abcf")
	fails(t, "five of them", thread(l...), api.ErrLimit)
	for _, s := range l {
		s.Loc = "xy"[s.Kind%2]
		twice = append(twice, s, s)
	}
	test := prog.Test{Init: starts("yx").Init, Threads: []block{twice, {while(twice)}}, Ask: two(api.Add, loc('x'), two(api.Add, loc('y'), loc('x')))}
	is(t, "twice", test, "xy")
	test.Ask = two(api.Add, loc('z'), loc('a'))
	is(t, "others asked", test, "axyz")
	test.Ask = two(api.Add, loc('z'), two(api.Add, loc('a'), loc('m')))
	fails(t, "one more asked", test, api.ErrLimit)
}

// faulty are changes that each lead a test of two threads to an error, by these errors; any of them may be made behind any other one.
func faulty() map[api.Errno]map[string]func(t *prog.Test) {
	deep := func(inner ...prog.Stmt) block { return nested(9, while, inner) }
	add := func(t *prog.Test, thread int, l ...prog.Stmt) { t.Threads[thread] = append(t.Threads[thread], l...) }
	ask := func(t *prog.Test, e *expr.Expr) { t.Ask = two(api.Add, t.Ask, e) }
	return map[api.Errno]map[string]func(t *prog.Test){
		api.ErrArg: {
			"statement":                      func(t *prog.Test) { add(t, 0, prog.Stmt{}) },
			"in a block":                     func(t *prog.Test) { add(t, 1, ifs(nil, block{set(8, n(1))})) },
			"in block 8":                     func(t *prog.Test) { add(t, 0, nested(8, while, block{{Kind: prog.Fence}})...) },
			"in block 8 behind a deeper one": func(t *prog.Test) { add(t, 0, nested(8, while, block{while(nil), {}})...) },
			"else too much":                  func(t *prog.Test) { add(t, 0, prog.Stmt{Kind: prog.While, A: n(1), Else: deep()}) },
			"last of many":                   func(t *prog.Test) { t.Threads = append(t.Threads, nil, nil, nil, block{{}}) },
			"question":                       func(t *prog.Test) { ask(t, reg(0)) },
			"thread 4":                       func(t *prog.Test) { ask(t, of(4, 0)) },
			"start":                          func(t *prog.Test) { t.Init = append(t.Init, prog.Init{Loc: 'r'}) },
			"start again":                    func(t *prog.Test) { t.Init = append(t.Init, starts("pp").Init...) },
		},
		api.ErrLimit: {
			"threads":        func(t *prog.Test) { t.Threads = append(t.Threads, nil, nil, nil) },
			"deep":           func(t *prog.Test) { add(t, 0, deep()...) },
			"deep and wrong": func(t *prog.Test) { add(t, 1, deep(prog.Stmt{}, set(9, nil), store('r'))...) },
			"stores":         func(t *prog.Test) { add(t, 0, store('a'), store('b'), store('c'), store('d'), store('e')) },
			"asked": func(t *prog.Test) {
				ask(t, two(api.Add, two(api.Add, loc('k'), loc('l')), two(api.Add, loc('m'), loc('o'))))
			},
		},
		api.ErrName: {
			"thread 2": func(t *prog.Test) { ask(t, of(2, 0)) },
			"thread 3": func(t *prog.Test) { ask(t, one(api.Not, of(3, 7))) },
		},
	}
}

// P6.1: a fault by itself, and of two faults the one whose error stands first, whichever is made first.
func TestOrder(t *testing.T) {
	fine := func(changes ...func(t *prog.Test)) prog.Test {
		test := prog.Test{Init: starts("x").Init, Threads: []block{{store('y')}, {set(1, n(1))}}, Ask: of(1, 1)}
		for _, change := range changes {
			change(&test)
		}
		return test
	}
	is(t, "no fault", fine(), "xy")
	order := []api.Errno{api.ErrArg, api.ErrLimit, api.ErrName}
	for i, first := range order {
		for nameA, a := range faulty()[first] {
			fails(t, nameA, fine(a), first)
			for _, second := range order[i+1:] {
				for nameB, b := range faulty()[second] {
					fails(t, nameA+" ahead of "+nameB, fine(a, b), first)
					fails(t, nameA+" behind "+nameB, fine(b, a), first)
				}
			}
		}
	}
}

// P6.1: faults that leave no room for others beside them, ahead of what is told later.
func TestOrderOfWholes(t *testing.T) {
	five := starts("abcde").Init
	fails(t, "no threads, too many locations", prog.Test{Init: five, Ask: of(0, 0)}, api.ErrArg)
	fails(t, "no question, too many locations", prog.Test{Init: five, Threads: make([]block, 5)}, api.ErrArg)
	fails(t, "a location twice, too many locations", prog.Test{Init: starts("abcdea").Init, Threads: make([]block, 5), Ask: of(3, 0)}, api.ErrArg)
	fails(t, "too many threads, one of which is asked", asks(5, of(3, 0)), api.ErrLimit)
	fails(t, "too many locations, no such thread", prog.Test{Init: five, Threads: []block{nil}, Ask: of(1, 0)}, api.ErrLimit)
	fails(t, "too deep, no such thread", prog.Test{Threads: []block{nested(9, while, nil)}, Ask: of(1, 0)}, api.ErrLimit)
	fails(t, "no such thread, four locations", prog.Test{Init: five[:4], Threads: []block{nil}, Ask: two(api.Add, loc('a'), of(1, 0))}, api.ErrName)
}

// P6.1: what may not be behind blocks deeper than MaxNest alone plays no part; ahead of them it does.
func TestWrongAndDeep(t *testing.T) {
	wrong := map[string]prog.Stmt{"kind": {}, "register": set(8, n(1)), "nil": set(1, nil), "location": store('r'), "mode": {Kind: prog.Fence, Mode: api.Pln}}
	for name, wrap := range wraps() {
		for what, s := range wrong {
			for deep := 1; deep <= 12; deep++ {
				test := thread(nested(deep, wrap, block{s, wrap(nil)})...)
				if deep <= 8 {
					fails(t, what+" in "+name, test, api.ErrArg)
				} else {
					fails(t, what+" in "+name, test, api.ErrLimit)
				}
				test = thread(nested(deep, wrap, block{wrap(nested(9, wrap, nil)), s})...)
				if deep <= 8 {
					fails(t, what+" behind a deep one in "+name, test, api.ErrArg)
				} else {
					fails(t, what+" behind a deep one in "+name, test, api.ErrLimit)
				}
			}
		}
	}
	five := nested(9, while, block{store('a'), store('b'), store('c'), store('d'), store('e')})
	fails(t, "locations of what is too deep", prog.Test{Threads: []block{five}, Ask: of(3, 0)}, api.ErrLimit)
}

// P6.2: of each letter its first starting value, or 0.
func TestStart(t *testing.T) {
	test := starts("yxyaX5")
	test.Init[3].N = most
	for _, c := range []struct {
		locs string
		want []uint64
	}{
		{"", nil}, {"x", []uint64{2}}, {"y", []uint64{1}}, {"a", []uint64{most}}, {"b", []uint64{0}}, {"xy", []uint64{2, 1}}, {"yx", []uint64{1, 2}}, {"axy", []uint64{most, 2, 1}},
		{"xx", []uint64{2, 2}}, {"ybyzy", []uint64{1, 0, 1, 0, 1}}, {"r", []uint64{0}}, {"xyzabcdefghij", []uint64{2, 1, 0, most, 0, 0, 0, 0, 0, 0, 0, 0, 0}},
		{"X", []uint64{5}}, {"5x", []uint64{6, 2}}, {"\x00\xff {", []uint64{0, 0, 0, 0}}, {"é", []uint64{0, 0}}, {"y\nx", []uint64{1, 0, 2}}, // bytes that are no letters are told likewise
	} {
		if got := check.Start(test, c.locs); !slices.Equal(got, c.want) {
			t.Errorf("%q: %v, not %v", c.locs, got, c.want)
		}
	}
	zero := starts("xyx")
	zero.Init[0].N = 0
	if got := check.Start(zero, "xy"); !slices.Equal(got, []uint64{0, 2}) {
		t.Errorf("a first one of 0: %v", got)
	}
	for _, none := range []prog.Test{{}, thread(store('x')), asks(1, loc('x'))} {
		if got := check.Start(none, "xyz"); !slices.Equal(got, []uint64{0, 0, 0}) {
			t.Errorf("no starting values: %v", got)
		}
	}
}

// P6.2: all bytes there are, in a test that has each once or twice.
func TestStartOfBytes(t *testing.T) {
	var all []byte
	var want []uint64
	var test prog.Test
	for i := range 256 {
		all = append(all, byte(255-i))
		want = append(want, uint64(255-i)<<40)
		test.Init = append(test.Init, prog.Init{Loc: byte(i), N: uint64(i) << 40})
	}
	for range 2 {
		if got := check.Start(test, string(all)); !slices.Equal(got, want) {
			t.Errorf("%v", got)
		}
		for i := range 256 {
			test.Init = append(test.Init, prog.Init{Loc: byte(i), N: 7})
		}
	}
}

// P6.2: the starting values of the locations that Check tells.
func TestStartOfChecked(t *testing.T) {
	test := prog.Test{Init: starts("zby").Init, Threads: []block{{store('x')}}, Ask: loc('y')}
	locs, err := check.Check(test)
	if err != api.OK || locs != "bxyz" {
		t.Fatal(locs, err)
	}
	if got := check.Start(test, locs); !slices.Equal(got, []uint64{2, 0, 3, 1}) {
		t.Error(got)
	}
}

// R2, R3: what is handed in stays as it is, what is handed out is the caller's own, and the answer is the same each time.
func TestNothingIsKept(t *testing.T) {
	fresh := func() prog.Test {
		return prog.Test{Init: starts("yx").Init, Threads: []block{{store('z'), ifs(block{set(1, n(2))}, block{while(nil)})}, ofEach()}, All: true, Ask: two(api.Eq, of(1, 1), loc('x'))}
	}
	test := fresh()
	for range 3 {
		is(t, "again", test, "xyz")
		values := check.Start(test, "yxz")
		if !slices.Equal(values, []uint64{1, 2, 0}) {
			t.Error(values)
		}
		for i := range values {
			values[i] = 99
		}
	}
	if !reflect.DeepEqual(test, fresh()) {
		t.Error("the test was changed")
	}
}
