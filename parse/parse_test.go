package parse_test

import (
	"math"
	"math/rand"
	"reflect"
	"slices"
	"strconv"
	"strings"
	"testing"

	"troth/api"
	"troth/expr"
	"troth/lex"
	"troth/parse"
	"troth/prog"
)

const most = math.MaxUint64

type block = []prog.Stmt

func n(v uint64) *expr.Expr      { return &expr.Expr{Kind: expr.Num, N: v} }
func reg(i uint8) *expr.Expr     { return &expr.Expr{Kind: expr.Reg, I: i} }
func of(t, i uint8) *expr.Expr   { return &expr.Expr{Kind: expr.Of, T: t, I: i} }
func loc(letter byte) *expr.Expr { return &expr.Expr{Kind: expr.Loc, X: letter} }

func one(op uint8, part *expr.Expr) *expr.Expr {
	return &expr.Expr{Kind: expr.One, Op: op, L: part}
}

func two(op uint8, left, right *expr.Expr) *expr.Expr {
	return &expr.Expr{Kind: expr.Two, Op: op, L: left, R: right}
}

func set(i uint8, a *expr.Expr) prog.Stmt { return prog.Stmt{Kind: prog.Set, Reg: i, A: a} }

// tidy is a test with nil for each list of nothing, so that it can be held against another one part by part.
func tidy(t prog.Test) prog.Test {
	t.Init = append([]prog.Init(nil), t.Init...)
	t.Threads = append([]block(nil), t.Threads...)
	for i, l := range t.Threads {
		t.Threads[i] = tidyBlock(l)
	}
	return t
}

func tidyBlock(l block) block {
	c := append(block(nil), l...)
	for i, s := range c {
		c[i].Then, c[i].Else = tidyBlock(s.Then), tidyBlock(s.Else)
	}
	return c
}

// is holds what a text comes to against a test.
func is(t *testing.T, text string, want prog.Test) {
	t.Helper()
	got, at, err := parse.Parse(text)
	if err != api.OK || at != (api.Place{}) || !reflect.DeepEqual(tidy(got), tidy(want)) {
		t.Errorf("%s: %v at %v,\n%s, not\n%s", text, err, at, got.Text(), want.Text())
	}
}

// isBlock holds a thread's statements against a block.
func isBlock(t *testing.T, text string, want ...prog.Stmt) {
	t.Helper()
	is(t, "thread {"+text+"} exists 1;", prog.Test{Threads: []block{want}, Ask: n(1)})
}

// isAsk holds an expression of the question against a tree.
func isAsk(t *testing.T, text string, want *expr.Expr) {
	t.Helper()
	is(t, "exists "+text+";", prog.Test{Ask: want})
}

// isSet holds an expression of a thread against a tree.
func isSet(t *testing.T, text string, want *expr.Expr) {
	t.Helper()
	isBlock(t, "r0 = "+text+";", set(0, want))
}

// fails holds the fault of a text against an error, at the piece that stands behind the text's @.
func fails(t *testing.T, marked string, want api.Errno) {
	t.Helper()
	i := strings.Index(marked, "@")
	if i < 0 {
		t.Fatalf("%s: no place", marked)
	}
	text := marked[:i] + marked[i+1:]
	wantAt := placeOf(text, len(text)-len(strings.TrimLeft(text[i:], " \t\n")))
	got, at, err := parse.Parse(text)
	if err != want || at != wantAt || !reflect.DeepEqual(got, prog.Test{}) {
		t.Errorf("%s: %v at %v, not %v at %v\n%s", text, err, at, want, wantAt, got.Text())
	}
}

func placeOf(text string, i int) api.Place {
	before := text[:i]
	return api.Place{Line: 1 + strings.Count(before, "\n"), Col: i - strings.LastIndex(before, "\n")}
}

// failsInThread is fails of statements.
func failsInThread(t *testing.T, want api.Errno, marked ...string) {
	t.Helper()
	for _, s := range marked {
		fails(t, "thread { r1 = 2; "+s+" } exists 1;", want)
		fails(t, "init x = 1; thread { } thread {\n if (1) { while (r2) { "+s+" } } r3 = 4; } forall 1;", want)
	}
}

// failsInBoth is fails of an expression, wherever one may stand; part is a leaf that may stand there.
func failsInBoth(t *testing.T, want api.Errno, marked ...string) {
	t.Helper()
	for _, s := range marked {
		fails(t, "exists "+s, want)
		fails(t, "thread { r0 = "+s, want)
		fails(t, "thread { if ("+s, want)
		fails(t, "thread { while ("+s, want)
		fails(t, "thread { store(x, "+s, want)
		fails(t, "thread { r0 = cas(x, "+s, want)
		fails(t, "thread { r0 = cas(x, 1, "+s, want)
	}
}

// P5.1, as the chapter's examples show it.
func TestExamples(t *testing.T) {
	fails(t, "thread { r0 = load(x, @rel); } exists 1;", api.ErrName)
	fails(t, "thread { } exists (1@;", api.ErrForm)
	if _, at, _ := parse.Parse("thread { r0 = load(x, rel); } exists 1;"); at != (api.Place{Line: 1, Col: 23}) {
		t.Error(at)
	}
	if _, at, _ := parse.Parse("thread { } exists (1;"); at != (api.Place{Line: 1, Col: 21}) {
		t.Error(at)
	}
}

// P5.1: starting values, threads, the question; none of them but the last.
func TestTests(t *testing.T) {
	is(t, "exists 1;", prog.Test{Ask: n(1)})
	is(t, "forall 0;", prog.Test{All: true, Ask: n(0)})
	is(t, "thread { } exists x;", prog.Test{Threads: []block{nil}, Ask: loc('x')})
	is(t, "init x = 0; exists x;", prog.Test{Init: []prog.Init{{Loc: 'x'}}, Ask: loc('x')})
	is(t, "init y = 18446744073709551615; init a = 007; init y = 3; forall 0:r1;", prog.Test{Init: []prog.Init{{Loc: 'y', N: most}, {Loc: 'a', N: 7}, {Loc: 'y', N: 3}}, All: true, Ask: of(0, 1)})
	is(t, "thread{}thread{r0=1;}thread{}thread{}exists 1;", prog.Test{Threads: []block{nil, {set(0, n(1))}, nil, nil}, Ask: n(1)})
	is(t, "init x=1;#init y=2;\nthread{#}\n}\n\tforall\nz#;\n;\n# exists", prog.Test{Init: []prog.Init{{Loc: 'x', N: 1}}, Threads: []block{nil}, All: true, Ask: loc('z')})
	is(t, `
init x = 7;
thread {
  r0 = load(x, acq);
  store(y, r0, rel);
}
thread {
  r1 = add(y, 1, ar);
  fence(sc);
}
forall 0:r0 == 7 & 1:r1 != y;
`, prog.Test{
		Init: []prog.Init{{Loc: 'x', N: 7}},
		Threads: []block{
			{{Kind: prog.Load, Loc: 'x', Mode: api.Acq}, {Kind: prog.Store, Loc: 'y', A: reg(0), Mode: api.Rel}},
			{{Kind: prog.Add, Reg: 1, Loc: 'y', A: n(1), Mode: api.Ar}, {Kind: prog.Fence, Mode: api.Sc}},
		},
		All: true,
		Ask: two(api.Ne, two(api.Eq, of(0, 0), two(api.And, n(7), of(1, 1))), loc('y')),
	})
}

// modes are all, as they are written.
func modes() []string { return []string{"pln", "rlx", "acq", "rel", "ar", "sc"} }

// P5.1: each statement with each mode; what a kind has not is zero.
func TestStatements(t *testing.T) {
	e, f := two(api.Add, n(1), reg(2)), one(api.Not, reg(3))
	isBlock(t, "r7 = 1 + r2;", set(7, e))
	for _, c := range []struct {
		text, modes string
		want        prog.Stmt
	}{
		{"r0 = load(a, M);", "pln rlx acq", prog.Stmt{Kind: prog.Load, Loc: 'a'}},
		{"store(z, 1 + r2, M);", "pln rlx rel", prog.Stmt{Kind: prog.Store, Loc: 'z', A: e}},
		{"r3 = swap(q, 1 + r2, M);", "rlx acq rel ar", prog.Stmt{Kind: prog.Swap, Reg: 3, Loc: 'q', A: e}},
		{"r4 = add(s, !r3, M);", "rlx acq rel ar", prog.Stmt{Kind: prog.Add, Reg: 4, Loc: 's', A: f}},
		{"r5 = cas(x, 1 + r2, !r3, M);", "rlx acq rel ar", prog.Stmt{Kind: prog.Cas, Reg: 5, Loc: 'x', A: e, B: f}},
		{"fence(M);", "acq rel ar sc", prog.Stmt{Kind: prog.Fence}},
	} {
		for i, m := range modes() {
			if slices.Contains(strings.Fields(c.modes), m) {
				c.want.Mode = uint8(i + 1)
				isBlock(t, strings.Replace(c.text, "M", m, 1), c.want)
			} else {
				failsInThread(t, api.ErrName, strings.Replace(c.text, "M", "@"+m, 1))
			}
		}
		for _, m := range []string{"x", "r0", "acqrel", "p", "load", "mode"} {
			failsInThread(t, api.ErrName, strings.Replace(c.text, "M", "@"+m, 1))
		}
		for _, m := range []string{"1", ")", "(", ",", ";"} {
			failsInThread(t, api.ErrForm, strings.Replace(c.text, "M", "@"+m, 1))
		}
		failsInThread(t, api.ErrForm, strings.Replace(c.text, "M", "@", 1))
	}
}

// P5.1: all registers and locations there are, and words that are none.
func TestRegistersAndLocations(t *testing.T) {
	for i := range uint8(api.Registers) {
		r := "r" + strconv.Itoa(int(i))
		isBlock(t, r+" = "+r+";", set(i, reg(i)))
		isBlock(t, r+"=load(x,pln);", prog.Stmt{Kind: prog.Load, Reg: i, Loc: 'x', Mode: api.Pln})
		for th := range uint8(api.MaxThreads) {
			isAsk(t, strconv.Itoa(int(th))+":"+r, of(th, i))
		}
	}
	for letter := byte('a'); letter <= 'z'; letter++ {
		x := string(rune(letter))
		if letter == 'r' {
			fails(t, "init @r = 1; exists 1;", api.ErrName)
			fails(t, "exists @r;", api.ErrName)
			failsInThread(t, api.ErrName, "store(@r, 1, rlx);", "r0 = load(@r, rlx);", "r0 = add(@r, 1, rlx);")
			continue
		}
		is(t, "init "+x+" = 1; exists "+x+";", prog.Test{Init: []prog.Init{{Loc: letter, N: 1}}, Ask: loc(letter)})
		isBlock(t, "store("+x+", 1, rlx);", prog.Stmt{Kind: prog.Store, Loc: letter, A: n(1), Mode: api.Rlx})
		failsInThread(t, api.ErrName, "@"+x+" = 1;", "r0 = @"+x+";", "r0 = 1 + @"+x+";")
	}
	for _, w := range []string{"r", "r8", "r9", "r00", "r07", "r10", "rr", "ra", "rz", "s0", "q1", "a1", "r0r", "register", "thread", "init", "exists", "forall", "else", "rlx", "load", "swap", "add", "cas", "store", "fence", "if", "while"} {
		failsInThread(t, api.ErrName, "store(x, @"+w+", rlx);", "r0 = 1 - @"+w+";", "r0 = -@"+w+";", "if (@"+w+") { }")
		fails(t, "exists 1:@"+w+";", api.ErrName)
	}
	for _, w := range []string{"r0", "r7", "xy", "x1", "xx", "thread", "init", "exists", "forall", "else", "rlx", "load", "swap", "add", "cas", "store", "fence", "if", "while"} {
		fails(t, "init @"+w+" = 1; exists 1;", api.ErrName)
		fails(t, "exists @"+w+";", api.ErrName)
		fails(t, "exists x + !(@"+w+");", api.ErrName)
		failsInThread(t, api.ErrName, "store(@"+w+", 1, rlx);", "r0 = load(@"+w+", rlx);", "r0 = swap(@"+w+", 1, rlx);", "r0 = add(@"+w+", 1, rlx);", "r0 = cas(@"+w+", 1, 2, rlx);")
	}
}

// P5.1: the words of statements where a statement begins, and behind =.
func TestWordsOfStatements(t *testing.T) {
	failsInThread(t, api.ErrForm, "store @= 1;", "fence @= 1;", "if @= 1;", "while @= 1;", "if @{ }", "while @r0 { }")
	failsInThread(t, api.ErrName, "@load = 1;", "@swap = 1;", "@add = 1;", "@cas = 1;", "@load(x, rlx);", "@else { }", "@thread { }", "@init x = 1;", "@exists 1;", "@forall 1;", "@rlx = 1;", "@pln;", "@r8 = 1;", "@r = 1;", "@x = load(x, rlx);", "@iff (1) { }")
	failsInThread(t, api.ErrName, "r0 = @store(x, 1, rlx);", "r0 = @fence(sc);", "r0 = @if (1) { }", "r0 = @while;", "r0 = @else;", "r0 = @thread;", "r0 = (@load(x, rlx));", "r0 = -@load(x, rlx);", "r0 = 1 + @add(x, 1, rlx);", "r0 = @r9;")
	failsInThread(t, api.ErrForm, "r0 = load@;", "r0 = swap @= 1;", "r0 = add @+ 1;", "r0 = cas @r0;", "r0 = load(x, rlx) @+ 1;", "r0 = load(x, rlx)@, 1;")
}

// P5.1: if with else and without, while, and empty blocks.
func TestBlocks(t *testing.T) {
	s, u := block{set(1, n(2))}, block{set(3, n(4)), set(5, n(6))}
	isBlock(t, "")
	isBlock(t, "if (r0) { }", prog.Stmt{Kind: prog.If, A: reg(0)})
	isBlock(t, "if (r0) { } else { }", prog.Stmt{Kind: prog.If, A: reg(0)})
	isBlock(t, "while (r0) { }", prog.Stmt{Kind: prog.While, A: reg(0)})
	isBlock(t, "if (r0) { r1 = 2; }", prog.Stmt{Kind: prog.If, A: reg(0), Then: s})
	isBlock(t, "if (r0) { r1 = 2; } r3 = 4; r5 = 6;", append(block{{Kind: prog.If, A: reg(0), Then: s}}, u...)...)
	isBlock(t, "if (r0) { r1 = 2; } else { r3 = 4; r5 = 6; }", prog.Stmt{Kind: prog.If, A: reg(0), Then: s, Else: u})
	isBlock(t, "if (r0) { } else { r1 = 2; } r3 = 4; r5 = 6;", append(block{{Kind: prog.If, A: reg(0), Else: s}}, u...)...)
	isBlock(t, "while (r0) { r3 = 4; r5 = 6; } r1 = 2;", prog.Stmt{Kind: prog.While, A: reg(0), Then: u}, s[0])
	inner := prog.Stmt{Kind: prog.If, A: n(1), Then: s, Else: u}
	isBlock(t, "if (0) { if (1) { r1 = 2; } else { r3 = 4; r5 = 6; } }", prog.Stmt{Kind: prog.If, A: n(0), Then: block{inner}})
	isBlock(t, "if (0) { while (1) { } } else { if (1) { r1 = 2; } else { r3 = 4; r5 = 6; } r1 = 2; }", prog.Stmt{Kind: prog.If, A: n(0), Then: block{{Kind: prog.While, A: n(1)}}, Else: block{inner, s[0]}})
	failsInThread(t, api.ErrName, "while (1) { } @else { }", "if (1) { } else { } @else { }", "r0 = 1; @else { }", "if (1) { } r0 = 1; @else { }")
	failsInThread(t, api.ErrForm, "if (1) { } else @if (1) { }", "if (1) @r0 = 1;", "while (1) @; ", "if (1) { } else @r0 = 1;", "if (1) { }@;", "while (1) { }@;", "@{ }", "if (@", "if@", "if (1@{ }", "while (1@; { }", "@;", "r0 = 1;@;", "@5", "@(", "fence@{")
	fails(t, "thread { if (1) { } else { r1 = 2; } @", api.ErrForm)
	fails(t, "thread { if (1) { @", api.ErrForm)
	fails(t, "thread { if (1) { } } @else { } exists 1;", api.ErrName)
}

// P5.1: each piece that a test may be wrong at, when another kind of piece, or another sign, is wanted.
func TestForm(t *testing.T) {
	for _, s := range []string{
		"@", " \n\t@", "# exists 1;@", "@1", "@;", "@{ }", "@(exists) 1;",
		"init@", "init @1 = 1;", "init @= 1;", "init @;", "init x@", "init x @1;", "init x @== 1;", "init x @x;", "init x =@", "init x = @y;", "init x = @-1;", "init x = @(1);", "init x = @;", "init x = 1@", "init x = 1@, y = 2;", "init x = 1 @+ 1;", "init x = 1 @init y = 2;", "init x = 1; @; exists 1;",
		"thread@", "thread @x { }", "thread @0 { }", "thread @exists 1;", "thread @( )", "thread @; exists 1;", "thread {@", "thread { @5", "thread { @)", "thread { r0 = 1; @", "thread { }@", "thread { } @;", "thread { } @}", "thread { } @{ }", "thread { } @1",
		"exists@", "forall@", "exists @;", "exists 1@", "exists 1 @2;", "exists 1 @x;", "exists x @y;", "exists 1 @exists 1;", "exists 1@, 2;", "exists 1 @= 1;", "exists 1 @! 1;", "exists 1 @{ }", "exists (1@;", "exists (1 @2);", "exists (@);", "exists 1 @) ;", "exists (1)@(2);", "exists 1 +@", "exists 1 +@;", "exists 1 + @* 2;", "exists @+ 1;", "exists @/ 1;", "exists ((1) + (2)@;", "exists -@", "exists !@;", "exists ! @= 1;",
		"exists 1; @exists 1;", "exists 1; @thread { }", "exists 1;@;", "exists 1; @1", "exists 1;\n # x\n @x",
		"exists 1:@;", "exists 1:@2;", "exists 1:@(r0);", "exists 1:@:r0;", "exists 1:r0@:r1;", "exists (1)@:r0;", "exists x@:r0;", "exists 1 + 2:@-r0;", "exists @:r0;",
	} {
		fails(t, s, api.ErrForm)
	}
	failsInThread(t, api.ErrForm,
		"r0@;", "r0 @== 1;", "r0 @+ 1;", "r0 @r1;", "r0 @1 = 1;", "r0@(x);", "r0 = @;", "r0 = @= 1;", "r0 = 1@", "r0 = 1 @r1 = 2;", "r0 = 1@, 2;", "r0 = 1 @= 2;", "r0 = r1 @r2;", "r0 = r1 @2;", "r0 = 2 @r1;", "r0 = @{ }", "r0 = 1 + @;", "r0 = (1@;", "r0 = (1 + 2)@);", "r0 = 1 < @= 2;", "r0 = 1 <= @= 2;", "r0 = 1 @= = 2;", "r0 = 1 @{",
		"store@ x, 1, rlx);", "store(@1, 1, rlx);", "store(@(x), 1, rlx);", "store(@, 1, rlx);", "store(x@ 1, rlx);", "store(x@; 1, rlx);", "store(x@);", "store(x, @, rlx);", "store(x, 1@);", "store(x, 1@; rlx);", "store(x, 1, @1);", "store(x, 1, rlx@, 1);", "store(x, 1, rlx@;", "store(x, 1, rlx)@ ", "store(x, 1, rlx)@)", "store(x, 1 @2, rlx);",
		"r0 = load(x@);", "r0 = load(x, @);", "r0 = load(x, acq@, acq);", "r0 = load(x, acq@;", "r0 = load(x, acq)@ r1 = 1;", "r0 = load(@5, acq);", "r0 = load@{x, acq};",
		"r0 = swap(x, 1@);", "r0 = swap(x, 1, rlx@, rlx);", "r0 = swap(x@);", "r0 = swap(x, @);", "r0 = add(x, @, rlx);", "r0 = add(x, 1, rlx@;", "r0 = cas(x, 1@);", "r0 = cas(x, 1, 2@);", "r0 = cas(x, 1, 2, rlx@, rlx);", "r0 = cas(x, 1@; 2, rlx);", "r0 = cas(x, 1, @, rlx);",
		"fence@;", "fence(@);", "fence(@1);", "fence(sc@, sc);", "fence(sc@;", "fence(sc)@ fence(sc);")
}

// P5.1: words that are wanted, but not such ones.
func TestNames(t *testing.T) {
	for _, s := range []string{
		"@x", "@inits x = 1; exists 1;", "@exist 1;", "@for 1;", "@r0 = 1;", "@load", "@store(x, 1, rlx);", "@if (1) { }", "@else",
		"thread { } @x", "thread { } @init x = 1; exists 1;", "thread { } @else { }", "thread { } @threads { }", "init x = 1; @x", "init x = 1; @load", "init x = 1; thread { } @existsforall 1;",
		"exists @xy;", "exists 1 + @xy;", "exists @exists;", "exists @thread;", "exists (@forall);",
	} {
		fails(t, s, api.ErrName)
	}
	failsInThread(t, api.ErrName, "r0 = load(x, @r0);", "fence(@rlx);", "fence(@pln);", "store(x, 1, @acq);", "store(x, 1, @ar);", "r0 = load(x, @sc);", "r0 = cas(x, 1, 2, @pln);")
}

// P5.1: a leaf of the question in a thread, a thread's leaf in the question, a thread's number that is too great.
func TestLeaves(t *testing.T) {
	isSet(t, "5", n(5))
	isSet(t, "18446744073709551615", n(most))
	isSet(t, "r5", reg(5))
	isAsk(t, "5", n(5))
	isAsk(t, "0042", n(42))
	isAsk(t, "x", loc('x'))
	isAsk(t, "3:r7", of(3, 7))
	isAsk(t, "003:r7", of(3, 7))
	isAsk(t, "0 : #\n r0", of(0, 0))
	isAsk(t, "4", n(4))
	isAsk(t, "4 - 3:r1", two(api.Sub, n(4), of(3, 1)))
	failsInThread(t, api.ErrName, "r0 = @x;", "r0 = 1 + @x;", "if (@y) { }", "store(x, @x, rlx);")
	failsInThread(t, api.ErrForm, "r0 = 0@:r1;", "while (0@:r1) { }", "store(x, 1@:r0, rlx);", "r0 = (1 + 2@:r0);", "r0 = r0@:r0;")
	for _, s := range []string{"exists @r0;", "exists 1 + @r0;", "exists !(@r7);", "exists 0:r0 == @r0;"} {
		fails(t, s, api.ErrName)
	}
	for _, s := range []string{"4", "5", "04", "255", "256", "257", "259", "65536", "4294967296", "18446744073709551615"} {
		fails(t, "exists @"+s+":r0;", api.ErrName)
		fails(t, "thread { } forall x == (1 + @"+s+":r0);", api.ErrName)
		fails(t, "exists @"+s+":", api.ErrName) // the number stands ahead of what is wrong behind it
		fails(t, "exists @"+s+":r8;", api.ErrName)
		fails(t, "exists "+s+" @r0;", api.ErrForm)
	}
}

// P5.1: a stronger operation binds first, of one strength the left one.
func TestStrengths(t *testing.T) {
	signs := []string{"==", "!=", "<", "<=", "+", "-", "|", "^", "*", "/", "%", "&"}
	strength := func(i int) int { return i / 4 }
	for i, a := range signs {
		opA := uint8(i + 1)
		isAsk(t, "1 "+a+" x", two(opA, n(1), loc('x')))
		for j, b := range signs {
			opB := uint8(j + 1)
			left, right := two(opB, two(opA, n(1), n(2)), n(3)), two(opA, n(1), two(opB, n(2), n(3)))
			want := left
			if strength(j) > strength(i) {
				want = right
			}
			isAsk(t, "1"+a+"2"+b+"3", want)
			isSet(t, "1 "+a+" 2 "+b+" 3", want)
			isAsk(t, "(1 "+a+" 2) "+b+" 3", left)
			isAsk(t, "1 "+a+" (2 "+b+" 3)", right)
			isAsk(t, "-1 "+a+" !2 "+b+" --3", byHand(opA, opB, strength(j) > strength(i)))
		}
	}
	isAsk(t, "1 == 2 + 3 * 4 - 5", two(api.Eq, n(1), two(api.Sub, two(api.Add, n(2), two(api.Mul, n(3), n(4))), n(5))))
	isAsk(t, "1 * 2 + 3 == 4 == 5 & 6", two(api.Eq, two(api.Eq, two(api.Add, two(api.Mul, n(1), n(2)), n(3)), n(4)), two(api.And, n(5), n(6))))
	isAsk(t, "1 - 2 - 3 - 4", two(api.Sub, two(api.Sub, two(api.Sub, n(1), n(2)), n(3)), n(4)))
	isAsk(t, "1 < 2 + 3 < 4 * 5 * 6 < 7", two(api.Lt, two(api.Lt, two(api.Lt, n(1), two(api.Add, n(2), n(3))), two(api.Mul, two(api.Mul, n(4), n(5)), n(6))), n(7)))
	isAsk(t, "!1 == 2", two(api.Eq, one(api.Not, n(1)), n(2)))
	isAsk(t, "!(1 == 2)", one(api.Not, two(api.Eq, n(1), n(2))))
	isAsk(t, "- x * - y", two(api.Mul, one(api.Neg, loc('x')), one(api.Neg, loc('y'))))
	isAsk(t, "1--1", two(api.Sub, n(1), one(api.Neg, n(1))))
	isAsk(t, "1 - - - 1", two(api.Sub, n(1), one(api.Neg, one(api.Neg, n(1)))))
	isAsk(t, "!-!0:r0", one(api.Not, one(api.Neg, one(api.Not, of(0, 0)))))
	isAsk(t, "(((1)))", n(1))
	isAsk(t, "-(-((x)))", one(api.Neg, one(api.Neg, loc('x'))))
	isAsk(t, "1:r1<=2:r2", two(api.Le, of(1, 1), of(2, 2)))
}

// byHand is -1 a !2 b --3, the right operation first or the left one.
func byHand(opA, opB uint8, rightFirst bool) *expr.Expr {
	x, y, z := one(api.Neg, n(1)), one(api.Not, n(2)), one(api.Neg, one(api.Neg, n(3)))
	if rightFirst {
		return two(opA, x, two(opB, y, z))
	}
	return two(opB, two(opA, x, y), z)
}

// P5.1: MaxThreads threads, and one more.
func TestThreads(t *testing.T) {
	for count := range 7 {
		threads := strings.Repeat("thread { r0 = 1; }\n", min(count, 4))
		if count <= 4 {
			is(t, threads+"exists 1;", prog.Test{Threads: slices.Repeat([]block{{set(0, n(1))}}, count), Ask: n(1)})
			continue
		}
		fails(t, threads+"@thread { r0 = 1; }\n"+strings.Repeat("thread { r0 = 1; }\n", count-5)+"exists 1;", api.ErrLimit)
	}
	four := strings.Repeat("thread { }", 4)
	fails(t, four+"@thread", api.ErrLimit)
	fails(t, four+"@thread 1", api.ErrLimit)
	fails(t, four+" exists @thread;", api.ErrName)
	fails(t, strings.Repeat("thread { }", 3)+"thread { @thread { } }", api.ErrName)
	fails(t, four+"@init x = 1;", api.ErrName)
	fails(t, four+"@{ }", api.ErrForm)
	fails(t, strings.Repeat("thread { }", 3)+"thread { @", api.ErrForm)
}

// P5.1: blocks of the depth MaxNest, and one more.
func TestNest(t *testing.T) {
	for _, head := range []string{"if (1) ", "while (1) ", "if (1) { } else "} {
		for deep := 1; deep <= 12; deep++ { // so many blocks in one another
			open := strings.Repeat(head+"{ ", min(deep, 8)-1)
			shut := strings.Repeat("} ", min(deep, 8)-1)
			text := "thread { r0 = 1; " + open + "r1 = 2; "
			if deep <= 8 {
				got, at, err := parse.Parse(text + shut + "} exists 1;")
				if err != api.OK || at != (api.Place{}) || prog.Nest(got.Threads[0]) != deep {
					t.Errorf("%s, %d deep: %v at %v", head, deep, err, at)
				}
				fails(t, text+shut+"} exists 1; @1", api.ErrForm)
				continue
			}
			first := head
			if i := strings.Index(head, "{"); i >= 0 { // the then block stands as deep as the else block
				first = head[:i]
			}
			fails(t, text+first+"@{ "+strings.Repeat(head+"{", deep-9), api.ErrLimit)
			fails(t, text+first+"@{ } ", api.ErrLimit)
			fails(t, text+first+"@r1 = 1; ", api.ErrForm) // no { stands there
			fails(t, text+first+"@", api.ErrForm)
		}
	}
	deepest := strings.Repeat("if (1) { ", 7)
	fails(t, "thread { "+deepest+" while (@x) { }", api.ErrName)
	fails(t, "thread { "+deepest+" if (1) @{ } else { }", api.ErrLimit)
	fails(t, "thread { "+deepest+" } else @5", api.ErrForm)
	fails(t, "thread { "+deepest+" } else { if (1) @{ } }", api.ErrLimit)
	back := strings.Repeat("} ", 7)
	isOK(t, "thread { "+deepest+back+deepest+back+"} thread { "+deepest+back+"} exists 1;")
}

func isOK(t *testing.T, text string) prog.Test {
	t.Helper()
	test, at, err := parse.Parse(text)
	if err != api.OK || at != (api.Place{}) {
		t.Errorf("%s: %v at %v", text, err, at)
	}
	return test
}

// P5.1: signs of one side and parentheses, MaxDepth open, and one more.
func TestOpen(t *testing.T) {
	isAsk(t, strings.Repeat("(", 12)+"x"+strings.Repeat(")", 12), loc('x'))
	failsInBoth(t, api.ErrLimit,
		strings.Repeat("(", 12)+"@(1"+strings.Repeat(")", 13)+";",
		strings.Repeat("(", 12)+"@(",
		strings.Repeat("(", 12)+"@-1",
		strings.Repeat("(", 12)+"@!",
		strings.Repeat("-", 12)+"@-1;",
		strings.Repeat("-", 12)+"@(1);",
		strings.Repeat("!", 12)+"@!1;",
		strings.Repeat("-(!", 4)+"@(1;",
		strings.Repeat("(-", 6)+"@-1;",
		strings.Repeat("(", 11)+"(1 + @(2",
		strings.Repeat("(", 11)+"(1 * 2 == @-2",
		strings.Repeat("(", 12)+"1 + 2 * @(",
		strings.Repeat("(", 11)+"-1 + (2 + @!")
	failsInBoth(t, api.ErrForm,
		strings.Repeat("(", 12)+"@)",
		strings.Repeat("(", 12)+"@*1",
		strings.Repeat("(", 12)+"@",
		strings.Repeat("(", 12)+"1"+strings.Repeat(")", 12)+"@(",
		strings.Repeat("-", 12)+"@;",
		strings.Repeat("(", 12)+"1@(1))")
	failsInBoth(t, api.ErrName, strings.Repeat("(", 12)+"@xy)", strings.Repeat("-", 12)+"@rr;")
	// what has ended is no more open, and a sign of one side ends with its part
	e := strings.Repeat("(", 12) + "1" + strings.Repeat(")", 12)
	isAsk(t, e+" + "+e+" * "+e, two(api.Add, n(1), two(api.Mul, n(1), n(1))))
	isOK(t, "thread { r0 = cas(x, "+e+", "+e+", ar); if ("+e+") { store(x, "+e+", rlx); } } exists "+e+";")
	isOK(t, "exists (("+strings.Repeat("-", 5)+"1 + "+strings.Repeat("-", 5)+"1) * "+strings.Repeat("(", 11)+"1"+strings.Repeat(")", 11)+");")
	isOK(t, "exists "+strings.Repeat("-1 + ", 10)+strings.Repeat("(", 12)+"1"+strings.Repeat(")", 12)+";")
	failsInBoth(t, api.ErrLimit, "-1 + -(-1) - "+strings.Repeat("(", 12)+"@-1")
	failsInBoth(t, api.ErrLimit, "-1 + (-1) - -"+strings.Repeat("(", 11)+"@(1")
}

// deepExprs are expressions of that depth, as texts over one leaf, none of which has more open than may be up to a depth of 13.
func deepExprs(depth int, leaf string) map[string]string {
	rest := depth - 1
	m := map[string]string{
		"left":   leaf + strings.Repeat(" + "+leaf, rest),
		"signs":  strings.Repeat("-", rest) + leaf,
		"right":  strings.Repeat(leaf+" - (", rest-1) + leaf + " * " + leaf + strings.Repeat(")", rest-1),
		"nots":   strings.Repeat("!-", rest/2) + strings.Repeat("!", rest%2) + leaf,
		"parens": strings.Repeat("(", rest) + leaf + strings.Repeat(" ^ "+leaf+")", rest),
		"mixed":  leaf + " == " + leaf + " + " + leaf + strings.Repeat(" * "+leaf, rest-2),
		"wide":   "(" + leaf + ")" + strings.Repeat(" & (("+leaf+"))", rest),
	}
	return m
}

// P5.1: an expression of the depth MaxDepth, and one more, which is told at its first piece, behind all faults within it, ahead of those behind it.
func TestDepth(t *testing.T) {
	for depth := 3; depth <= 13; depth++ {
		for name, e := range deepExprs(depth, "7") {
			if depth <= 12 {
				got := isOK(t, "exists "+e+";")
				if got.Ask.Depth() != depth {
					t.Errorf("%s: %d deep, not %d", name, got.Ask.Depth(), depth)
				}
				isOK(t, "thread { r0 = "+e+"; store(x, "+e+", rlx); r1 = cas(x, "+e+", "+e+", ar); if ("+e+") { while ("+e+") { } } } exists 1;")
				continue
			}
			failsInBoth(t, api.ErrLimit, "@"+e+";", "@"+e+")", "@"+e+",", "@"+e, "@"+e+" 7", "@"+e+" }", "@"+e+" x", "@"+e+" (", "@"+e+" !", "@"+e+"\n= 1")
			failsInBoth(t, api.ErrForm, e+" + @)", e+" - @;", e+" * @", "(("+leftOf(14)+"@;", "("+leftOf(14)+" @7)", leftOf(13)+" + (1@;")
			failsInBoth(t, api.ErrName, e+" + @xy", e+" == @rr")
			failsInBoth(t, api.ErrLimit, e+" - "+strings.Repeat("(", 12)+"@(")
		}
	}
	fails(t, "thread { r0 = @"+leftOf(13)+"; x = 1; } exists "+leftOf(13)+";", api.ErrLimit)
	fails(t, "thread { r0 = cas(x, @"+leftOf(13)+", "+leftOf(13)+", rlx); }", api.ErrLimit)
	fails(t, "thread { r0 = cas(x, 1, @"+leftOf(500)+", pln); }", api.ErrLimit)
	fails(t, "exists\n\t@(("+leftOf(13)+"));", api.ErrLimit) // the whole expression's first piece
	fails(t, "exists @1 + ("+leftOf(12)+");", api.ErrLimit)
	fails(t, "exists @-("+leftOf(12)+");", api.ErrLimit)
	fails(t, "exists @0:r1 + ("+leftOf(12)+");", api.ErrLimit)
	isOK(t, "exists -("+leftOf(11)+");")
	isOK(t, "exists ("+leftOf(11)+") * ("+leftOf(11)+");")
}

// leftOf is a sum of so many numbers, which is as deep.
func leftOf(count int) string { return "1" + strings.Repeat(" + 1", count-1) }

// P5.1: errors of the pieces come first.
func TestPiecesFirst(t *testing.T) {
	fails(t, "init 5 thread @$", api.ErrForm)
	fails(t, ") ) x\n @18446744073709551616", api.ErrLimit)
	fails(t, "thread { r0 = load(x, rel); } exists 1; @A", api.ErrForm)
	fails(t, strings.Repeat("thread { }", 5)+" @?", api.ErrForm)
	fails(t, "exists "+leftOf(13)+";@.", api.ErrForm)
	fails(t, "exists @18446744073709551616;", api.ErrLimit)
	fails(t, "exists 1;@\x00", api.ErrForm)
	fails(t, "@exists 1;"+strings.Repeat(" ", api.MaxText), api.ErrLimit)
	fails(t, "@x"+strings.Repeat(" ", api.MaxText), api.ErrLimit)
	most := "exists 1;" + strings.Repeat(" ", api.MaxText-9)
	is(t, most, prog.Test{Ask: n(1)})
	fails(t, "@"+most+" ", api.ErrLimit)
}

// P5.1, R1: texts as long as may be, of one thing over and over.
func TestLong(t *testing.T) {
	for _, unit := range []string{"(", "-", "!", "{", "}", "1 ", "1+", "x ", "thread{", "thread{}", "init x=1;", "if(1){", "exists ", ":", ";", "r0=1;", "exists (", "1:"} {
		for _, head := range []string{"", "exists ", "exists 1+", "thread{", "thread{if(", "thread{r0=", "thread{store(x,"} {
			s := head + strings.Repeat(unit, (api.MaxText-len(head))/len(unit))
			if got, at, err := parse.Parse(s); err == api.OK || at == (api.Place{}) || !reflect.DeepEqual(got, prog.Test{}) {
				t.Errorf("%.30s: %v at %v", s, err, at)
			}
		}
	}
	count := (api.MaxText - len("thread{}exists 1;")) / len("r1=2;")
	got := isOK(t, "thread{"+strings.Repeat("r1=2;", count)+"}exists 1;")
	if len(got.Threads[0]) != count {
		t.Errorf("%d statements", len(got.Threads[0]))
	}
	count = (api.MaxText - len("exists 1;")) / len("init x=1;")
	if got := isOK(t, strings.Repeat("init x=1;", count)+"exists 1;"); len(got.Init) != count {
		t.Errorf("%d starting values", len(got.Init))
	}
}

// P5.2: what is parsed, is written so that it is parsed as itself.
func isWrittenAsItself(t *testing.T, test prog.Test) {
	t.Helper()
	text := test.Text()
	if len(text) > api.MaxText { // of such a text nothing but that is told
		return
	}
	back, at, err := parse.Parse(text)
	if err != api.OK || at != (api.Place{}) || !prog.Same(back, test) || !reflect.DeepEqual(tidy(back), tidy(test)) || back.Text() != text {
		t.Fatalf("%v at %v:\n%s\nnot\n%s", err, at, back.Text(), text)
	}
}

// P5.2: expressions of each shape up to MaxDepth are written with no more open than may be.
func TestWrittenDeep(t *testing.T) {
	for depth := 2; depth <= 12; depth++ {
		for _, leaf := range []*expr.Expr{n(3), loc('x'), of(3, 7)} {
			for _, ops := range [][]uint8{{api.Sub}, {api.Eq}, {api.Mul}, {api.Neg}, {api.Not, api.Eq}, {api.Neg, api.Mul}, {api.Mul, api.Add, api.Lt}, {api.Lt, api.Add, api.Mul}, {api.Not, api.Sub, api.Neg}} {
				for _, sides := range []int{0, 1, 2} {
					e := leaf
					for i := range depth - 1 {
						switch op := ops[i%len(ops)]; {
						case op >= api.Not:
							e = one(op, e)
						case sides == 0:
							e = two(op, e, leaf)
						case sides == 1:
							e = two(op, leaf, e)
						case i < 8:
							e = two(op, e, e)
						default:
							e = two(op, leaf, e)
						}
					}
					if e.Depth() != depth {
						t.Fatalf("%d deep, not %d", e.Depth(), depth)
					}
					isWrittenAsItself(t, prog.Test{Ask: e})
				}
			}
		}
	}
}

// R2, R3: what a caller does with an answer changes no later one.
func TestAnswersAreNew(t *testing.T) {
	const text = "init x = 1; thread { r0 = load(x, rlx); if (r0 + 1) { r1 = 2; } else { r3 = r4; } } exists 0:r0 == 1 + x;"
	first, want := isOK(t, text), isOK(t, text)
	first.Init[0].N = 9
	first.Ask.L.I, first.Ask.R.L.N = 5, 5
	s := first.Threads[0][1]
	s.A.L.I, s.Then[0].Reg, s.Else[0].A.I = 7, 7, 7
	clear(first.Threads[0][:cap(first.Threads[0])])
	clear(first.Threads[:cap(first.Threads)])
	if got := isOK(t, text); !reflect.DeepEqual(got, want) {
		t.Errorf("%s, not %s", got.Text(), want.Text())
	}
}

// lettersOf are those of a text's pieces but End.
func lettersOf(t *testing.T, text string) []string {
	t.Helper()
	pieces, _, err := lex.Lex(text)
	if err != api.OK {
		t.Fatalf("%s: %v", text, err)
	}
	var l []string
	for _, p := range pieces[:len(pieces)-1] {
		l = append(l, p.Text)
	}
	return l
}

// chance makes tests by chance.
type chance struct{ *rand.Rand }

func (c chance) leaf(inThread bool) *expr.Expr {
	v := c.Uint64() >> c.Intn(64)
	switch c.Intn(3) {
	case 0:
		return n(v)
	case 1:
		if inThread {
			return reg(uint8(c.Intn(8)))
		}
		return of(uint8(c.Intn(4)), uint8(c.Intn(8)))
	}
	if inThread {
		return n(uint64(c.Intn(3)))
	}
	return loc("abcxyzqs"[c.Intn(8)])
}

func (c chance) expr(depth int, inThread bool) *expr.Expr {
	if depth == 1 || c.Intn(4) == 0 {
		return c.leaf(inThread)
	}
	if op := api.Eq + uint8(c.Intn(14)); op <= api.And {
		return two(op, c.expr(depth-1, inThread), c.expr(depth-1, inThread))
	} else {
		return one(op, c.expr(depth-1, inThread))
	}
}

func (c chance) stmt(room int) prog.Stmt {
	s := prog.Stmt{Kind: prog.Set + uint8(c.Intn(9))}
	if room == 1 && s.Kind >= prog.If {
		s.Kind = prog.Fence
	}
	if m := prog.Modes(s.Kind); m != nil {
		s.Mode = m[c.Intn(len(m))]
	}
	depth := 1 + c.Intn(4)
	switch s.Kind {
	case prog.Set, prog.Load, prog.Swap, prog.Add, prog.Cas:
		s.Reg = uint8(c.Intn(8))
	}
	switch s.Kind {
	case prog.Load, prog.Store, prog.Swap, prog.Add, prog.Cas:
		s.Loc = "abxyz"[c.Intn(5)]
	}
	if s.Kind != prog.Load && s.Kind != prog.Fence {
		s.A = c.expr(depth, true)
	}
	switch s.Kind {
	case prog.Cas:
		s.B = c.expr(depth, true)
	case prog.If:
		s.Then, s.Else = c.block(room-1), c.block(room-1)
	case prog.While:
		s.Then = c.block(room - 1)
	}
	return s
}

func (c chance) block(room int) block {
	var l block
	for range c.Intn(4) {
		l = append(l, c.stmt(room))
	}
	return l
}

func (c chance) test() prog.Test {
	t := prog.Test{All: c.Intn(2) == 0, Ask: c.expr(1+c.Intn(6), false)}
	for range c.Intn(3) {
		t.Init = append(t.Init, prog.Init{Loc: "abxyz"[c.Intn(5)], N: c.Uint64() >> c.Intn(64)})
	}
	for range c.Intn(api.MaxThreads + 1) {
		t.Threads = append(t.Threads, c.block(1+c.Intn(api.MaxNest)))
	}
	return t
}

// spread puts letters one behind the other, with whatever may stand between them.
func (c chance) spread(letters []string) string {
	var b strings.Builder
	for _, s := range letters {
		b.WriteString([]string{" ", "\n", "\t ", " # ; }\n", " "}[c.Intn(5)])
		b.WriteString(s)
	}
	return b.String()
}

// P5.2, and P5.1: what is written is parsed as itself, whatever stands between the pieces.
func TestWrittenAndParsed(t *testing.T) {
	c := chance{rand.New(rand.NewSource(1))}
	parsed := 0
	for range 4000 {
		test := c.test()
		isWrittenAsItself(t, test)
		s := c.spread(lettersOf(t, cut(test.Text())))
		if len(test.Text()) <= api.MaxText && len(s) <= api.MaxText {
			is(t, s, test)
			parsed++
		}
	}
	if parsed < 2000 {
		t.Errorf("only %d parsed", parsed)
	}
}

// cut is a text, or nothing if it is too long to be one.
func cut(text string) string {
	if len(text) > api.MaxText {
		return ""
	}
	return text
}
