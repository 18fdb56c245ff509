package unroll_test

import (
	"math"
	"reflect"
	"slices"
	"strconv"
	"strings"
	"testing"

	"troth/api"
	"troth/expr"
	"troth/parse"
	"troth/prog"
	"troth/unroll"
)

// parsed is the test of a text.
func parsed(t *testing.T, text string) prog.Test {
	t.Helper()
	test, at, err := parse.Parse(text)
	if err != api.OK {
		t.Fatalf("%v at %v\n%s", err, at, text)
	}
	return test
}

// threads is a text with these as threads, that asks for 1.
func threads(l ...string) string {
	var b strings.Builder
	for _, body := range l {
		b.WriteString("thread { " + body + " }\n")
	}
	return b.String() + "exists 1;"
}

// unrolled is the program of a test that has one.
func unrolled(t *testing.T, test prog.Test, k int) unroll.Program {
	t.Helper()
	p, err := unroll.Unroll(test, k)
	if err != api.OK {
		t.Fatalf("k = %d: %v\n%s", k, err, test.Text())
	}
	return p
}

// fails holds a test's fault against an error, and its program against none.
func fails(t *testing.T, name string, test prog.Test, k int, want api.Errno) {
	t.Helper()
	if p, err := unroll.Unroll(test, k); err != want || !reflect.DeepEqual(p, unroll.Program{}) {
		t.Errorf("%s, k = %d: %v, %v, not %v and nothing", name, k, p, err, want)
	}
}

// shown is code, place by place, and where it begins: ? and : stand ahead of a Branch's Next and Else, > ahead of where others go on.
func shown(p unroll.Thread) string {
	var l []string
	for at, x := range p.Code {
		next, els := strconv.Itoa(x.Next), strconv.Itoa(x.Else)
		switch {
		case x.Kind == unroll.Branch:
			l = append(l, x.A.Text()+" ?"+next+" :"+els)
		case x.Kind == unroll.Stuck && x.Next == at && x.Else == at:
			l = append(l, "stuck")
		case x.Kind == prog.Set && x.Else == x.Next:
			l = append(l, "r"+strconv.Itoa(int(x.Reg))+"="+x.A.Text()+" >"+next)
		default:
			l = append(l, "kind "+strconv.Itoa(int(x.Kind))+" >"+next+" :"+els)
		}
	}
	return strings.Join(l, "; ") + " | " + strconv.Itoa(p.Begin)
}

// The kinds that are no statements' are numbers of their own.
func TestKinds(t *testing.T) {
	if unroll.Branch != 8 || unroll.Stuck != 9 {
		t.Error(unroll.Branch, unroll.Stuck)
	}
}

// P7.1, as the chapter's example shows it.
func TestExample(t *testing.T) {
	p := unrolled(t, parsed(t, "thread { while (r0) { r0 = 0; } } exists 1;"), 1)
	if got, want := shown(p.Threads[0]), "stuck; r0 ?0 :-1; r0=0 >1; r0 ?2 :-1 | 3"; got != want {
		t.Errorf("%s\nnot\n%s", got, want)
	}
}

// P7.1: where code stands, and where it goes on, worked out by hand from the document's words.
func TestCode(t *testing.T) {
	for _, c := range []struct {
		body string
		k    int
		want string
	}{
		{"", 0, " | -1"},
		{"", 8, " | -1"},
		{"r0 = 1;", 0, "r0=1 >-1 | 0"},
		{"r0 = 1;", 8, "r0=1 >-1 | 0"},
		{"r0 = 1; r1 = 2; r2 = 3;", 1, "r2=3 >-1; r1=2 >0; r0=1 >1 | 2"},
		// Ifs: empty, half empty, last, first, between, in one another
		{"if (r0) { }", 1, "r0 ?-1 :-1 | 0"},
		{"if (r0) { } else { }", 1, "r0 ?-1 :-1 | 0"},
		{"if (r0) { r1 = 1; }", 1, "r1=1 >-1; r0 ?0 :-1 | 1"},
		{"if (r0) { } else { r2 = 2; }", 1, "r2=2 >-1; r0 ?-1 :0 | 1"},
		{"if (r0) { r1 = 1; } else { r2 = 2; }", 1, "r1=1 >-1; r2=2 >-1; r0 ?0 :1 | 2"},
		{"if (r0) { r1 = 1; r2 = 2; } else { r3 = 3; r4 = 4; }", 1, "r2=2 >-1; r1=1 >0; r4=4 >-1; r3=3 >2; r0 ?1 :3 | 4"},
		{"if (r0) { r1 = 1; } else { r2 = 2; } r3 = 3;", 1, "r3=3 >-1; r1=1 >0; r2=2 >0; r0 ?1 :2 | 3"},
		{"if (r0) { } r3 = 3;", 1, "r3=3 >-1; r0 ?0 :0 | 1"},
		{"r3 = 3; if (r0) { }", 1, "r0 ?-1 :-1; r3=3 >0 | 1"},
		{"r3 = 3; if (r0) { r1 = 1; } r4 = 4;", 1, "r4=4 >-1; r1=1 >0; r0 ?1 :0; r3=3 >2 | 3"},
		{"if (r0) { if (r1) { r2 = 2; } }", 1, "r2=2 >-1; r1 ?0 :-1; r0 ?1 :-1 | 2"},
		{"if (r0) { } else { if (r1) { } else { r2 = 2; } r3 = 3; }", 1, "r3=3 >-1; r2=2 >0; r1 ?0 :1; r0 ?-1 :2 | 3"},
		{"if (r0) { if (r1) { } } if (r2) { }", 1, "r2 ?-1 :-1; r1 ?0 :0; r0 ?1 :0 | 2"},
		// Whiles: empty, not at all, last, first, between
		{"while (r0) { }", 0, "stuck; r0 ?0 :-1 | 1"},
		{"while (r0) { }", 1, "stuck; r0 ?0 :-1; r0 ?1 :-1 | 2"},
		{"while (r0) { }", 3, "stuck; r0 ?0 :-1; r0 ?1 :-1; r0 ?2 :-1; r0 ?3 :-1 | 4"},
		{"while (r0) { r1 = 1; }", 0, "stuck; r0 ?0 :-1 | 1"},
		{"while (r0) { r1 = 1; }", 2, "stuck; r0 ?0 :-1; r1=1 >1; r0 ?2 :-1; r1=1 >3; r0 ?4 :-1 | 5"},
		{"while (r0) { r1 = 1; r2 = 2; }", 2, "stuck; r0 ?0 :-1; r2=2 >1; r1=1 >2; r0 ?3 :-1; r2=2 >4; r1=1 >5; r0 ?6 :-1 | 7"},
		{"while (r0) { r1 = 1; } r2 = 2;", 1, "r2=2 >-1; stuck; r0 ?1 :0; r1=1 >2; r0 ?3 :0 | 4"},
		{"while (r0) { } r2 = 2;", 0, "r2=2 >-1; stuck; r0 ?1 :0 | 2"},
		{"r2 = 2; while (r0) { r1 = 1; }", 1, "stuck; r0 ?0 :-1; r1=1 >1; r0 ?2 :-1; r2=2 >3 | 4"},
		{"r2 = 2; while (r0) { } r3 = 3;", 1, "r3=3 >-1; stuck; r0 ?1 :0; r0 ?2 :0; r2=2 >3 | 4"},
		{"while (r0) { } while (r1) { }", 1, "stuck; r1 ?0 :-1; r1 ?1 :-1; stuck; r0 ?3 :2; r0 ?4 :2 | 5"},
		// one in the other
		{"while (r0) { if (r1) { r2 = 2; } else { r3 = 3; } }", 2, "stuck; r0 ?0 :-1; r2=2 >1; r3=3 >1; r1 ?2 :3; r0 ?4 :-1; r2=2 >5; r3=3 >5; r1 ?6 :7; r0 ?8 :-1 | 9"},
		{"while (r0) { if (r1) { } }", 1, "stuck; r0 ?0 :-1; r1 ?1 :1; r0 ?2 :-1 | 3"},
		{"if (r0) { while (r1) { r2 = 2; } } else { while (r3) { } } r4 = 4;", 1, "r4=4 >-1; stuck; r1 ?1 :0; r2=2 >2; r1 ?3 :0; stuck; r3 ?5 :0; r3 ?6 :0; r0 ?4 :7 | 8"},
		{"while (r0) { while (r1) { r2 = 2; } }", 0, "stuck; r0 ?0 :-1 | 1"},
		{"while (r0) { while (r1) { r2 = 2; } }", 1, "stuck; r0 ?0 :-1; stuck; r1 ?2 :1; r2=2 >3; r1 ?4 :1; r0 ?5 :-1 | 6"},
		{"while (r0) { while (r1) { r2 = 2; } }", 2, "stuck; r0 ?0 :-1; stuck; r1 ?2 :1; r2=2 >3; r1 ?4 :1; r2=2 >5; r1 ?6 :1; r0 ?7 :-1; " +
			"stuck; r1 ?9 :8; r2=2 >10; r1 ?11 :8; r2=2 >12; r1 ?13 :8; r0 ?14 :-1 | 15"},
		{"while (r0) { r3 = 3; while (r1) { } r4 = 4; } r5 = 5;", 1, "r5=5 >-1; stuck; r0 ?1 :0; r4=4 >2; stuck; r1 ?4 :3; r1 ?5 :3; r3=3 >6; r0 ?7 :0 | 8"},
	} {
		if got := shown(unrolled(t, parsed(t, threads(c.body)), c.k).Threads[0]); got != c.want {
			t.Errorf("%s, k = %d:\n%s\nnot\n%s", c.body, c.k, got, c.want)
		}
		p := unrolled(t, parsed(t, threads("r7 = 7;", c.body, "", c.body)), c.k) // threads know nothing of one another
		if shown(p.Threads[0]) != "r7=7 >-1 | 0" || shown(p.Threads[1]) != c.want || shown(p.Threads[2]) != " | -1" || shown(p.Threads[3]) != c.want || len(p.Threads) != 4 {
			t.Errorf("%s, k = %d, as one of several threads: %v", c.body, c.k, p)
		}
	}
}

// P7.1: what the instruction of each kind has, in each of its modes; nothing else.
func TestEachKind(t *testing.T) {
	n, r3 := &expr.Expr{Kind: expr.Num, N: math.MaxUint64}, &expr.Expr{Kind: expr.Reg, I: 3}
	a := &expr.Expr{Kind: expr.Two, Op: api.Sub, L: r3, R: n}
	var l []prog.Stmt
	for kind := prog.Set; kind <= prog.Fence; kind++ {
		modes := prog.Modes(kind)
		if kind == prog.Set {
			modes = []uint8{0}
		}
		for i, m := range modes {
			s := prog.Stmt{Kind: kind, Mode: m, Loc: "dbac"[i]}
			switch kind {
			case prog.Set:
				s.Reg, s.A, s.Loc = 7, a, 0
			case prog.Load:
				s.Reg = 6
			case prog.Store:
				s.A = a
			case prog.Swap, prog.Add:
				s.Reg, s.A = kind, a
			case prog.Cas:
				s.Reg, s.A, s.B = 1, a, r3
			case prog.Fence:
				s.Loc = 0
			}
			l = append(l, s)
		}
	}
	place := map[byte]int{0: 0, 'a': 0, 'b': 1, 'c': 2, 'd': 3}
	test := prog.Test{Threads: [][]prog.Stmt{l}, Ask: n}
	code := unrolled(t, test, 0).Threads[0].Code
	for i, s := range l {
		at := len(l) - 1 - i
		want := unroll.Instr{Kind: s.Kind, Reg: s.Reg, Mode: s.Mode, Loc: place[s.Loc], A: s.A, B: s.B, Next: at - 1, Else: at - 1}
		if !reflect.DeepEqual(code[at], want) {
			t.Errorf("%v\nnot\n%v", code[at], want)
		}
	}
	for _, s := range []prog.Stmt{{Kind: prog.If, A: a, Then: l[:1], Else: l[1:2]}, {Kind: prog.While, A: a, Then: l[:1]}} {
		test.Threads[0] = []prog.Stmt{s, l[1]}
		test.Init = []prog.Init{{Loc: 'a'}} // so the locations' places are not those of the kinds that have none
		code := unrolled(t, test, 1).Threads[0].Code
		for at, x := range code {
			if at > 0 && (x.Kind == unroll.Branch) != reflect.DeepEqual(x, unroll.Instr{Kind: unroll.Branch, A: a, Next: x.Next, Else: x.Else}) {
				t.Errorf("a Branch has too much, or not enough: %v", x)
			}
			if (x.Kind == unroll.Stuck) != reflect.DeepEqual(x, unroll.Instr{Kind: unroll.Stuck, Next: at, Else: at}) {
				t.Errorf("Stuck has too much, or not enough: %v", x)
			}
		}
	}
}

// P7.1: a location's place is that among all of the test's, whoever names them.
func TestPlacesOfLocations(t *testing.T) {
	for text, want := range map[string]int{
		"thread { store(x, 1, rlx); } exists 1;":                                  0,
		"thread { store(x, 1, rlx); } exists w;":                                  1,
		"thread { store(x, 1, rlx); } exists z;":                                  0,
		"init a = 1; thread { store(x, 1, rlx); } exists w;":                      2,
		"init a = 1; thread { store(x, 1, rlx); } thread { fence(sc); } exists b": 2,
		"init z = 1; thread { store(x, 1, rlx); } exists 1":                       0,
		"thread { store(x, 1, rlx); } thread { r0 = load(a, acq); } exists b - c": 3,
		"thread { store(x, 1, rlx); if (0) { r0 = swap(b, 1, ar); } } exists c":   2,
	} {
		p := unrolled(t, parsed(t, strings.TrimSuffix(text, ";")+";"), 0)
		if got := p.Threads[0].Code[len(p.Threads[0].Code)-1]; got.Kind != prog.Store || got.Loc != want {
			t.Errorf("%s: kind %d at %d, not %d", text, got.Kind, got.Loc, want)
		}
	}
}

// P7.1: Locs and Start are the test's, so are the quantifier, the question, and the number of threads.
func TestRest(t *testing.T) {
	for _, c := range []struct {
		text, locs string
		start      []uint64
		all        bool
		ask        string
		threads    int
	}{
		{"thread { } exists 1;", "", nil, false, "1", 1},
		{"thread { } forall 0:r7 == 18446744073709551615;", "", nil, true, "0:r7 == 18446744073709551615", 1},
		{"init y = 5; thread { r0 = load(z, pln); } thread { } thread { store(a, 1, rlx); } exists x + 2:r0;", "axyz", []uint64{0, 0, 5, 0}, false, "x + 2:r0", 3},
		{"init c = 18446744073709551615; init b = 0; thread { } thread { } thread { } thread { } forall !(a == b);", "abc", []uint64{0, 0, math.MaxUint64}, true, "!(a == b)", 4},
	} {
		test := parsed(t, c.text)
		p := unrolled(t, test, 2)
		if p.Locs != c.locs || !slices.Equal(p.Start, c.start) || p.All != c.all || p.Ask.Text() != c.ask || !expr.Same(p.Ask, test.Ask) || len(p.Threads) != c.threads {
			t.Errorf("%s: %v", c.text, p)
		}
	}
}

// P7.1: how often loops may be unrolled.
func TestTimes(t *testing.T) {
	test := parsed(t, threads("while (r0) { r1 = 1; }", "r2 = 2;"))
	for k := -20; k <= 300; k++ {
		if k < 0 || k > 8 {
			fails(t, "times", test, k, api.ErrArg)
			continue
		}
		code := unrolled(t, test, k).Threads[0].Code
		if len(code) != 2+2*k {
			t.Errorf("k = %d: %d instructions", k, len(code))
		}
	}
	plain := parsed(t, threads("r0 = 1;"))
	for _, k := range []int{math.MinInt, math.MinInt + 1, -1 << 32, -256, 9, 256, 1 << 32, math.MaxInt} { // also where there is no loop
		fails(t, "times", test, k, api.ErrArg)
		fails(t, "times without a loop", plain, k, api.ErrArg)
		fails(t, "times of an empty thread", parsed(t, threads("")), k, api.ErrArg)
	}
}

// sets are so many statements, each of one instruction.
func sets(count int) string { return strings.Repeat("r1 = 1; ", count) }

// limit holds a thread's body against how many instructions it has, wherever the thread stands.
func limit(t *testing.T, body string, k, count int) {
	t.Helper()
	for i, l := range [][]string{{body}, {body, "r0 = 1;"}, {"", body, ""}, {sets(32), sets(32), body}, {"r0 = 1;", "", "while (r0) { }", body}} {
		test := parsed(t, threads(l...))
		if count > 32 {
			fails(t, body, test, k, api.ErrLimit)
		} else if at := [...]int{0, 0, 1, 2, 3}[i]; len(unrolled(t, test, k).Threads[at].Code) != count {
			t.Errorf("%s, k = %d: not %d instructions", body, k, count)
		}
	}
}

// P7.1: MaxCode instructions of a thread, and one more: by statements, by an If, by a While.
func TestLimit(t *testing.T) {
	for count := range 40 {
		limit(t, sets(count), 3, count)
	}
	for _, then := range []int{0, 1, 15, 30, 31, 32, 33} {
		for _, els := range []int{0, 1, 15, 16, 17, 31, 32} {
			for _, more := range []int{0, 1, 2} {
				choice := "if (r0) { " + sets(then) + "} else { " + sets(els) + "} "
				limit(t, choice+sets(more), 8, then+els+more+1)
				limit(t, sets(more)+choice, 8, then+els+more+1)
			}
		}
	}
	for k := 0; k <= 8; k++ {
		for _, each := range []int{0, 1, 2, 3, 4, 5, 9, 29, 30} {
			loop := "while (r0) { " + sets(each) + "} "
			count := 2 + k*(each+1)
			limit(t, loop, k, count)
			for _, more := range []int{32 - count, 33 - count} {
				if more > 0 {
					limit(t, sets(more)+loop, k, count+more)
					limit(t, loop+sets(more), k, count+more)
					limit(t, "if (1) { "+sets(more-1)+"} "+loop, k, count+more)
				}
			}
		}
	}
	limit(t, strings.Repeat("if (r0) { } ", 32), 0, 32)
	limit(t, strings.Repeat("if (r0) { } ", 33), 0, 33)
	limit(t, strings.Repeat("while (r0) { } ", 16), 0, 32)
	limit(t, strings.Repeat("while (r0) { } ", 16)+"r0 = 1;", 0, 33)
	limit(t, "r0 = 1; "+strings.Repeat("while (r0) { } ", 16), 0, 33)
	limit(t, strings.Repeat("while (r0) { } ", 10)+"r0 = 1; r0 = 1;", 1, 32)
	limit(t, strings.Repeat("while (r0) { } ", 11), 1, 33)
	limit(t, "while (r0) { while (r1) { r2 = 2; } }", 3, 2+3*(2+3*2+1))
	limit(t, "while (r0) { while (r1) { r2 = 2; } } r0 = 1; r0 = 1; r0 = 1;", 3, 32)
	limit(t, "while (r0) { while (r1) { r2 = 2; } } r0 = 1; r0 = 1; r0 = 1; r0 = 1;", 3, 33)
}

// P7.1, R1: what is far too much is told soon, however deep and wide loops stand in one another.
func TestFarTooMuch(t *testing.T) {
	body := ""
	for range 7 {
		body = strings.Repeat("while(r0){"+body+"}", 2)
	}
	fails(t, "loops in loops", parsed(t, threads(body)), 8, api.ErrLimit)
	x := &expr.Expr{Kind: expr.Reg}
	l := []prog.Stmt{{Kind: prog.While, A: x}, {Kind: prog.If, A: x}, {Kind: prog.Set, A: x}}
	for range 6 {
		l = []prog.Stmt{{Kind: prog.While, A: x, Then: l}, {Kind: prog.If, A: x, Then: l, Else: l}, {Kind: prog.While, A: x, Then: l}}
	}
	fails(t, "loops that share blocks", prog.Test{Threads: [][]prog.Stmt{nil, l}, Ask: &expr.Expr{}}, 8, api.ErrLimit)
	fails(t, "very many statements", prog.Test{Threads: [][]prog.Stmt{slices.Repeat(l[:1], 200)}, Ask: &expr.Expr{}}, 8, api.ErrLimit)
}

// wrong are tests that Check refuses, by their errors; each one is as long as is said.
func wrong(t *testing.T, long int) map[string]prog.Test {
	body := sets(long) + "store(x, 1, rlx);"
	deep := parsed(t, threads(body, "while (r0) { }"))
	for range 7 {
		deep.Threads[1] = []prog.Stmt{{Kind: prog.While, A: &expr.Expr{}, Then: deep.Threads[1]}}
	}
	five := parsed(t, "init a = 1; thread { "+body+" } exists a + b + c + d;")
	many := parsed(t, threads(body))
	many.Threads = slices.Repeat(many.Threads, 5)
	reg, nobody, twice := parsed(t, threads(body)), parsed(t, threads(body)), parsed(t, "init x = 1; init x = 1; "+threads(body))
	reg.Threads[0][long].A = &expr.Expr{Kind: expr.Loc, X: 'x'}
	nobody.Ask = nil
	return map[string]prog.Test{
		"ErrArg: a location in a statement": reg, "ErrArg: no question": nobody, "ErrArg: two starting values": twice, "ErrArg: no threads": parsed(t, "exists 1;"), "ErrArg: zero": {},
		"ErrLimit: deep": deep, "ErrLimit: locations": five, "ErrLimit: threads": many,
		"ErrName: no such thread": parsed(t, "thread { "+body+" } exists 1:r0;"), "ErrName: no such thread of several": parsed(t, "thread { } thread { "+body+" } exists !3:r0;"),
	}
}

// P7.1: the errors in their order: Check's, then the loops' bound, then what is too much; with each a zero program.
func TestOrder(t *testing.T) {
	errs := map[string]api.Errno{"ErrArg": api.ErrArg, "ErrLimit": api.ErrLimit, "ErrName": api.ErrName}
	for _, long := range []int{0, 31, 32, 50} {
		for name, test := range wrong(t, long) {
			want := errs[strings.Split(name, ":")[0]]
			for _, k := range []int{math.MinInt, -1, 0, 4, 8, 9, math.MaxInt} {
				fails(t, name, test, k, want)
			}
		}
		for _, body := range []string{"r0 = 1; ", "while (r0) { r0 = 1; } "} {
			for _, k := range []int{math.MinInt, -1, 9, math.MaxInt} {
				fails(t, body, parsed(t, threads("", body+sets(long))), k, api.ErrArg)
			}
			if long > 31 {
				for k := 0; k <= 8; k++ {
					fails(t, body, parsed(t, threads("", body+sets(long))), k, api.ErrLimit)
				}
			}
		}
	}
}

// P7.1, R1: blocks that stand in themselves, and tests of parts that are none.
func TestWrongInputs(t *testing.T) {
	one := &expr.Expr{Kind: expr.Num, N: 1}
	ring := []prog.Stmt{{Kind: prog.While, A: one}}
	ring[0].Then = ring
	endless := &expr.Expr{Kind: expr.One, Op: api.Not}
	endless.L = endless
	for name, c := range map[string]struct {
		s    prog.Stmt
		want api.Errno
	}{
		"ring":             {ring[0], api.ErrLimit},
		"ring in an else":  {prog.Stmt{Kind: prog.If, A: one, Else: ring}, api.ErrLimit},
		"no kind":          {prog.Stmt{}, api.ErrArg},
		"kind 10":          {prog.Stmt{Kind: 10}, api.ErrArg},
		"kind 255":         {prog.Stmt{Kind: 255, A: one}, api.ErrArg},
		"no expression":    {prog.Stmt{Kind: prog.Set}, api.ErrArg},
		"no condition":     {prog.Stmt{Kind: prog.While}, api.ErrArg},
		"endless":          {prog.Stmt{Kind: prog.If, A: endless}, api.ErrArg},
		"register 8":       {prog.Stmt{Kind: prog.Set, Reg: 8, A: one}, api.ErrArg},
		"location r":       {prog.Stmt{Kind: prog.Load, Loc: 'r', Mode: api.Rlx}, api.ErrArg},
		"location 0":       {prog.Stmt{Kind: prog.Load, Mode: api.Rlx}, api.ErrArg},
		"mode":             {prog.Stmt{Kind: prog.Load, Loc: 'x', Mode: api.Rel}, api.ErrArg},
		"a fence with one": {prog.Stmt{Kind: prog.Fence, Loc: 'x', Mode: api.Sc}, api.ErrArg},
		"a loop with else": {prog.Stmt{Kind: prog.While, A: one, Else: []prog.Stmt{{Kind: prog.Set, A: one}}}, api.ErrArg},
	} {
		for k := -1; k <= 9; k++ {
			fails(t, name, prog.Test{Threads: [][]prog.Stmt{{c.s}}, Ask: one}, k, c.want)
			fails(t, name+", later", prog.Test{Threads: [][]prog.Stmt{nil, {{Kind: prog.Set, A: one}, c.s}}, Ask: one}, k, c.want)
		}
	}
}

// P7.2: places of code, and all others.
func TestEnd(t *testing.T) {
	for count := range 5 {
		code := make([]unroll.Instr, count, count+3) // room behind a code's end is none of it
		for at := -5; at < 10; at++ {
			for _, begin := range []int{-1, 0, at, count} {
				if got, want := unroll.End(unroll.Thread{Code: code, Begin: begin}, at), at != 0 && at != 1 && at != 2 && at != 3 || at >= count; got != want {
					t.Errorf("%d instructions, place %d: %v", count, at, got)
				}
			}
		}
		for _, at := range []int{math.MinInt, -1 << 32, -256, 256, 1 << 32, math.MaxInt} {
			if !unroll.End(unroll.Thread{Code: code}, at) {
				t.Errorf("%d instructions, place %d", count, at)
			}
		}
	}
	if !unroll.End(unroll.Thread{}, 0) || !unroll.End(unroll.Thread{}, -1) || !unroll.End(unroll.Thread{Begin: -1}, -1) {
		t.Error("no code, and yet a place of it")
	}
	p := unrolled(t, parsed(t, threads("", "while (r0) { store(x, 1, rel); }")), 8)
	if !unroll.End(p.Threads[0], p.Threads[0].Begin) || unroll.End(p.Threads[1], p.Threads[1].Begin) || unroll.End(p.Threads[1], 17) || !unroll.End(p.Threads[1], 18) {
		t.Error("ends of a program's threads")
	}
}

// R2, R3: what is handed in stays as it is, lists that are handed out are the caller's own, and the answer is the same each time.
func TestNothingIsKept(t *testing.T) {
	text := "init y = 3; thread { while (r0 == 1) { r0 = load(x, acq); } if (r0) { store(y, 1, rel); } else { r2 = 1; } } thread { r0 = cas(y, 0, r1 + 1, ar); fence(sc); } thread { } forall 0:r0 == x;"
	test, fresh := parsed(t, text), parsed(t, text)
	extra := prog.Stmt{Kind: prog.Set, Reg: 5}
	for i, l := range test.Threads {
		test.Threads[i], fresh.Threads[i] = append(slices.Clone(l), extra)[:len(l)], append([]prog.Stmt{}, l...)
	}
	want := unrolled(t, parsed(t, text), 2)
	for range 3 {
		p := unrolled(t, test, 2)
		if !reflect.DeepEqual(p, want) {
			t.Fatalf("%v\nnot\n%v", p, want)
		}
		for i, l := range p.Threads {
			clear(l.Code)
			p.Threads[i].Code = append(l.Code, unroll.Instr{Kind: 77})
		}
		for i := range p.Start {
			p.Start[i] = 99
		}
		clear(append(p.Start, 99))
		clear(append(p.Threads, unroll.Thread{}))
	}
	if !reflect.DeepEqual(test, fresh) {
		t.Error("the test was changed")
	}
	for _, l := range test.Threads {
		if !reflect.DeepEqual(l[:len(l)+1][len(l)], extra) {
			t.Error("the room behind a block was changed")
		}
	}
	p := unrolled(t, test, 2) // no list's room reaches into another one
	for i := range p.Threads {
		_ = append(p.Threads[i].Code, slices.Repeat([]unroll.Instr{{Kind: 77}}, 40)...)
	}
	if !reflect.DeepEqual(p, want) {
		t.Error("threads share room")
	}
}
