package prog_test

import (
	"math"
	"math/rand"
	"reflect"
	"slices"
	"strconv"
	"strings"
	"testing"

	"troth/api"
	"troth/expr"
	"troth/prog"
)

const most = math.MaxUint64

type block = []prog.Stmt

func n(v uint64) *expr.Expr      { return &expr.Expr{Kind: expr.Num, N: v} }
func reg(i uint8) *expr.Expr     { return &expr.Expr{Kind: expr.Reg, I: i} }
func of(t, i uint8) *expr.Expr   { return &expr.Expr{Kind: expr.Of, T: t, I: i} }
func loc(letter byte) *expr.Expr { return &expr.Expr{Kind: expr.Loc, X: letter} }

func one(op uint8, part *expr.Expr) *expr.Expr {
	return &expr.Expr{Kind: expr.One, Op: op, L: part}
}

func two(op uint8, left, right *expr.Expr) *expr.Expr {
	return &expr.Expr{Kind: expr.Two, Op: op, L: left, R: right}
}

func set(i uint8, a *expr.Expr) prog.Stmt { return prog.Stmt{Kind: prog.Set, Reg: i, A: a} }

func fence(mode uint8) prog.Stmt { return prog.Stmt{Kind: prog.Fence, Mode: mode} }

func load(i uint8, x byte, mode uint8) prog.Stmt {
	return prog.Stmt{Kind: prog.Load, Reg: i, Loc: x, Mode: mode}
}

func store(x byte, a *expr.Expr, mode uint8) prog.Stmt {
	return prog.Stmt{Kind: prog.Store, Loc: x, A: a, Mode: mode}
}

// update is a Swap, an Add or, with b, a Cas.
func update(kind, i uint8, x byte, a, b *expr.Expr, mode uint8) prog.Stmt {
	return prog.Stmt{Kind: kind, Reg: i, Loc: x, A: a, B: b, Mode: mode}
}

func ifs(a *expr.Expr, then, els block) prog.Stmt {
	return prog.Stmt{Kind: prog.If, A: a, Then: then, Else: els}
}

func while(a *expr.Expr, then block) prog.Stmt {
	return prog.Stmt{Kind: prog.While, A: a, Then: then}
}

// thread is a test of one thread, that asks for 1.
func thread(l ...prog.Stmt) prog.Test { return prog.Test{Threads: []block{l}, Ask: n(1)} }

// nested is a block of so many blocks in one another, Ifs and Whiles by turns; the deepest one is inner.
func nested(deep int, inner block) block {
	l := inner
	for i := deep - 1; i > 0; i-- {
		switch i % 3 {
		case 0:
			l = block{ifs(reg(0), l, nil)}
		case 1:
			l = block{while(reg(0), l)}
		case 2:
			l = block{ifs(reg(0), nil, l)}
		}
	}
	return l
}

// endless are blocks that stand in themselves, in each way there is.
func endless() map[string]block {
	m := map[string]block{
		"then": {ifs(n(1), nil, nil)}, "else": {ifs(n(1), nil, nil)}, "both": {ifs(n(1), nil, nil)}, "while": {while(n(1), nil)},
		"far": {ifs(n(1), nil, block{set(1, n(2)), while(n(3), nil)})}, "two": {set(2, n(1)), while(n(1), nil), ifs(n(2), nil, nil)},
		"many": slices.Repeat(block{ifs(n(1), nil, nil)}, 30),
	}
	m["then"][0].Then = m["then"]
	m["else"][0].Else = m["else"]
	m["both"][0].Then, m["both"][0].Else = m["both"], m["both"]
	m["while"][0].Then = m["while"]
	m["far"][0].Else[1].Then = m["far"]
	m["two"][1].Then, m["two"][2].Else = m["two"], m["two"]
	for i := range m["many"] {
		m["many"][i].Then, m["many"][i].Else = m["many"], m["many"]
	}
	return m
}

// wrongExprs are expressions that may not be.
func wrongExprs() []*expr.Expr {
	in := one(api.Not, nil)
	in.L = in
	return []*expr.Expr{nil, reg(8), loc('r'), of(4, 0), one(api.Add, n(1)), two(api.Add, n(1), nil), {Kind: 9}, in}
}

// copied is a block of new parts all through.
func copied(l block) block {
	c := slices.Clone(l)
	for i, s := range c {
		c[i].A, c[i].B = copiedExpr(s.A), copiedExpr(s.B)
		c[i].Then, c[i].Else = copied(s.Then), copied(s.Else)
	}
	return c
}

func copiedExpr(e *expr.Expr) *expr.Expr {
	if e == nil {
		return nil
	}
	c := *e
	c.L, c.R = copiedExpr(e.L), copiedExpr(e.R)
	return &c
}

func copiedTest(t prog.Test) prog.Test {
	c := prog.Test{Init: slices.Clone(t.Init), All: t.All, Ask: copiedExpr(t.Ask)}
	for _, l := range t.Threads {
		c.Threads = append(c.Threads, copied(l))
	}
	return c
}

// writes holds a test against its lines.
func writes(t *testing.T, test prog.Test, want ...string) {
	t.Helper()
	if s := test.Text(); s != strings.Join(want, "\n")+"\n" {
		t.Errorf("written\n%s\nnot\n%s", s, strings.Join(want, "\n"))
	}
}

// writesBlock holds a thread's block against its lines.
func writesBlock(t *testing.T, l block, want ...string) {
	t.Helper()
	writes(t, thread(l...), slices.Concat([]string{"thread {"}, want, []string{"}", "exists 1;"})...)
}

// The kinds count on from 1.
func TestKinds(t *testing.T) {
	for i, kind := range []uint8{prog.Set, prog.Load, prog.Store, prog.Swap, prog.Add, prog.Cas, prog.Fence, prog.If, prog.While} {
		if int(kind) != i+1 {
			t.Errorf("kind %d is %d", i+1, kind)
		}
	}
}

// P4.1, as the chapter's example shows it.
func TestExample(t *testing.T) {
	test := thread(ifs(reg(0), block{store('x', n(1), api.Rlx)}, nil))
	test.All = true
	writes(t, test, "thread {", "  if (r0) {", "    store(x, 1, rlx);", "  }", "}", "forall 1;")
}

// modesOf is what the document says of the modes that a kind may have.
func modesOf(kind uint8) string {
	switch kind {
	case prog.Load:
		return "pln rlx acq"
	case prog.Store:
		return "pln rlx rel"
	case prog.Swap, prog.Add, prog.Cas:
		return "rlx acq rel ar"
	case prog.Fence:
		return "acq rel ar sc"
	}
	return ""
}

// P4.2: all numbers there are, those that are no mode, too.
func TestMode(t *testing.T) {
	want := map[uint8]string{1: "pln", 2: "rlx", 3: "acq", 4: "rel", 5: "ar", 6: "sc"}
	for i := range 256 {
		if s := prog.Mode(uint8(i)); s != want[uint8(i)] {
			t.Errorf("mode %d is written %q", i, s)
		}
	}
}

// P4.2: all numbers there are, those that are no kind, too.
func TestModes(t *testing.T) {
	number := map[string]uint8{"pln": api.Pln, "rlx": api.Rlx, "acq": api.Acq, "rel": api.Rel, "ar": api.Ar, "sc": api.Sc}
	for i := range 256 {
		var want []uint8
		for _, s := range strings.Fields(modesOf(uint8(i))) {
			want = append(want, number[s])
		}
		got := prog.Modes(uint8(i))
		if !slices.Equal(got, want) {
			t.Errorf("kind %d may have %v, not %v", i, got, want)
		}
		for j := range got { // R2, R3: what is handed out is the caller's own
			got[j] = 200
		}
		if got := prog.Modes(uint8(i)); !slices.Equal(got, want) {
			t.Errorf("kind %d may have %v, once they were written to", i, got)
		}
	}
}

// P4.1: each kind with each of its modes.
func TestTextOfEachKind(t *testing.T) {
	e := two(api.Mul, two(api.Add, n(1), reg(2)), n(3))
	writesBlock(t, block{set(7, e)}, "  r7 = (1 + r2) * 3;")
	for kind := uint8(1); kind <= prog.While; kind++ {
		for _, m := range prog.Modes(kind) {
			word := map[uint8]string{1: "pln", 2: "rlx", 3: "acq", 4: "rel", 5: "ar", 6: "sc"}[m]
			switch kind {
			case prog.Load:
				writesBlock(t, block{load(0, 'a', m)}, "  r0 = load(a, "+word+");")
			case prog.Store:
				writesBlock(t, block{store('z', e, m)}, "  store(z, (1 + r2) * 3, "+word+");")
			case prog.Swap:
				writesBlock(t, block{update(kind, 3, 'x', e, nil, m)}, "  r3 = swap(x, (1 + r2) * 3, "+word+");")
			case prog.Add:
				writesBlock(t, block{update(kind, 4, 'y', n(0), nil, m)}, "  r4 = add(y, 0, "+word+");")
			case prog.Cas:
				writesBlock(t, block{update(kind, 5, 's', n(1), e, m)}, "  r5 = cas(s, 1, (1 + r2) * 3, "+word+");")
				writesBlock(t, block{update(kind, 5, 's', e, n(1), m)}, "  r5 = cas(s, (1 + r2) * 3, 1, "+word+");")
			case prog.Fence:
				writesBlock(t, block{fence(m)}, "  fence("+word+");")
			}
		}
	}
	writesBlock(t, block{ifs(e, nil, nil)}, "  if ((1 + r2) * 3) {", "  }")
	writesBlock(t, block{while(e, nil)}, "  while ((1 + r2) * 3) {", "  }")
}

// P4.1: starting values, threads, and the question.
func TestTextOfTests(t *testing.T) {
	writes(t, prog.Test{Ask: n(1)}, "exists 1;")
	writes(t, prog.Test{All: true, Ask: n(0)}, "forall 0;")
	writes(t, thread(), "thread {", "}", "exists 1;")
	writes(t, prog.Test{Threads: []block{nil, {}, {set(0, n(5))}, nil, nil}, Ask: loc('x')}, "thread {", "}", "thread {", "}", "thread {", "  r0 = 5;", "}", "thread {", "}", "thread {", "}", "exists x;")
	writes(t, prog.Test{Init: []prog.Init{{Loc: 'y', N: 0}, {Loc: 'x', N: most}, {Loc: 'y', N: 10}}, Ask: n(1)}, "init y = 0;", "init x = 18446744073709551615;", "init y = 10;", "exists 1;")
	writes(t, prog.Test{
		Init:    []prog.Init{{Loc: 'x', N: 7}},
		Threads: []block{{load(0, 'x', api.Acq), store('y', reg(0), api.Rel)}, {update(prog.Add, 1, 'y', n(1), nil, api.Ar), fence(api.Sc)}},
		All:     true,
		Ask:     two(api.And, two(api.Eq, of(0, 0), n(7)), two(api.Ne, of(1, 1), loc('y'))),
	}, "init x = 7;", "thread {", "  r0 = load(x, acq);", "  store(y, r0, rel);", "}", "thread {", "  r1 = add(y, 1, ar);", "  fence(sc);", "}", "forall (0:r0 == 7) & (1:r1 != y);")
}

// P4.1: blocks in blocks.
func TestTextOfBlocks(t *testing.T) {
	s := block{set(1, n(2))}
	writesBlock(t, block{ifs(reg(0), s, nil), set(3, n(4))}, "  if (r0) {", "    r1 = 2;", "  }", "  r3 = 4;")
	writesBlock(t, block{ifs(reg(0), s, block{})}, "  if (r0) {", "    r1 = 2;", "  }")
	writesBlock(t, block{ifs(reg(0), s, block{set(3, n(4))})}, "  if (r0) {", "    r1 = 2;", "  } else {", "    r3 = 4;", "  }")
	writesBlock(t, block{ifs(reg(0), nil, s)}, "  if (r0) {", "  } else {", "    r1 = 2;", "  }")
	writesBlock(t, block{while(reg(0), s), while(reg(1), block{})}, "  while (r0) {", "    r1 = 2;", "  }", "  while (r1) {", "  }")
	writesBlock(t, block{
		set(0, n(1)),
		ifs(reg(0), block{while(reg(1), block{ifs(n(1), nil, nil), set(2, n(2))})}, block{ifs(reg(2), s, s), fence(api.Rel)}),
		while(n(0), block{while(n(1), block{ifs(n(2), nil, block{while(n(3), nil)})}), set(7, n(7))}),
	},
		"  r0 = 1;",
		"  if (r0) {",
		"    while (r1) {",
		"      if (1) {",
		"      }",
		"      r2 = 2;",
		"    }",
		"  } else {",
		"    if (r2) {",
		"      r1 = 2;",
		"    } else {",
		"      r1 = 2;",
		"    }",
		"    fence(rel);",
		"  }",
		"  while (0) {",
		"    while (1) {",
		"      if (2) {",
		"      } else {",
		"        while (3) {",
		"        }",
		"      }",
		"    }",
		"    r7 = 7;",
		"  }")
}

// P4.1: blocks as deep as MaxNest are written, deeper ones not, but what they stand in is.
func TestTextOfDeepBlocks(t *testing.T) {
	for _, deep := range []int{7, 8, 9, 10, 40} {
		var want []string
		for i := 1; i < min(deep, 9); i++ {
			margin := strings.Repeat("  ", i)
			switch i % 3 {
			case 0:
				want = append(want, margin+"if (r0) {")
			case 1:
				want = append(want, margin+"while (r0) {")
			case 2:
				want = append(want, margin+"if (r0) {", margin+"} else {")
			}
		}
		if deep <= 8 {
			want = append(want, strings.Repeat("  ", deep)+"r1 = 2;")
		}
		for i := min(deep, 9) - 1; i > 0; i-- {
			want = append(want, strings.Repeat("  ", i)+"}")
		}
		writesBlock(t, nested(deep, block{set(1, n(2))}), want...)
	}
	if s := thread(nested(8, block{while(n(1), nil), fence(api.Ar)})...).Text(); !strings.Contains(s, "\n"+strings.Repeat("  ", 8)+"while (1) {\n"+strings.Repeat("  ", 8)+"}\n"+strings.Repeat("  ", 8)+"fence(ar);\n") {
		t.Errorf("behind a block that is too deep:\n%s", s)
	}
}

// P4.1: parts that may not be are written as nothing, what stands around them as ever.
func TestTextOfWhatMayNotBe(t *testing.T) {
	for _, e := range wrongExprs() {
		writes(t, prog.Test{Ask: e}, "exists ;")
		writesBlock(t, block{set(0, e), store('x', e, api.Pln), update(prog.Swap, 1, 'x', e, nil, api.Rlx), update(prog.Add, 2, 'x', e, nil, api.Acq)}, "  r0 = ;", "  store(x, , pln);", "  r1 = swap(x, , rlx);", "  r2 = add(x, , acq);")
		writesBlock(t, block{update(prog.Cas, 3, 'x', e, n(1), api.Rel), update(prog.Cas, 3, 'x', n(1), e, api.Ar)}, "  r3 = cas(x, , 1, rel);", "  r3 = cas(x, 1, , ar);")
		writesBlock(t, block{ifs(e, block{set(0, n(1))}, nil), while(e, block{set(0, n(2))})}, "  if () {", "    r0 = 1;", "  }", "  while () {", "    r0 = 2;", "  }")
	}
	for _, m := range []uint8{0, 7, 8, 255} {
		writesBlock(t, block{load(0, 'x', m), store('x', n(1), m), update(prog.Swap, 1, 'x', n(2), nil, m), update(prog.Add, 1, 'x', n(2), nil, m), update(prog.Cas, 1, 'x', n(2), n(3), m), fence(m)},
			"  r0 = load(x, );", "  store(x, 1, );", "  r1 = swap(x, 2, );", "  r1 = add(x, 2, );", "  r1 = cas(x, 2, 3, );", "  fence();")
	}
	for i := range 256 {
		if i >= 1 && i <= 9 {
			continue
		}
		s := prog.Stmt{Kind: uint8(i), Reg: 1, Mode: api.Rlx, Loc: 'x', A: n(1), B: n(2), Then: block{set(0, n(3))}, Else: block{set(0, n(4))}}
		writesBlock(t, block{s})
		writesBlock(t, block{set(1, n(1)), s, set(2, n(2)), ifs(n(3), block{s}, nil)}, "  r1 = 1;", "  r2 = 2;", "  if (3) {", "  }")
		writesBlock(t, block{ifs(n(3), nil, block{s})}, "  if (3) {", "  } else {", "  }") // an else of a kind that is none is not empty
	}
}

// P4.1: registers of all numbers, locations of all bytes.
func TestTextOfRegistersAndBytes(t *testing.T) {
	for i := range 256 {
		b, r := uint8(i), "  r"+strconv.Itoa(i)
		x := string([]byte{b})
		writesBlock(t, block{set(b, n(1))}, r+" = 1;")
		writesBlock(t, block{load(b, b, api.Pln)}, r+" = load("+x+", pln);")
		writesBlock(t, block{store(b, n(1), api.Pln)}, "  store("+x+", 1, pln);")
		writesBlock(t, block{update(prog.Swap, b, b, n(1), nil, api.Ar)}, r+" = swap("+x+", 1, ar);")
		writesBlock(t, block{update(prog.Add, b, b, n(1), nil, api.Ar)}, r+" = add("+x+", 1, ar);")
		writesBlock(t, block{update(prog.Cas, b, b, n(1), n(2), api.Ar)}, r+" = cas("+x+", 1, 2, ar);")
		writes(t, prog.Test{Init: []prog.Init{{Loc: b, N: 3}}, Ask: n(1)}, "init "+x+" = 3;", "exists 1;")
	}
}

// full is a statement of a kind that has a part of everything, what its kind does not have, too.
func full(kind uint8) prog.Stmt {
	return prog.Stmt{Kind: kind, Reg: 1, Mode: api.Rlx, Loc: 'x', A: n(2), B: n(3), Then: block{set(4, n(5))}, Else: block{set(6, n(7))}}
}

// P4.1, P4.3: what its kind does not have is not written, no block, and not gone into.
func TestWhatAKindHasNot(t *testing.T) {
	want := map[uint8]string{
		prog.Set: "  r1 = 2;", prog.Load: "  r1 = load(x, rlx);", prog.Store: "  store(x, 2, rlx);", prog.Swap: "  r1 = swap(x, 2, rlx);",
		prog.Add: "  r1 = add(x, 2, rlx);", prog.Cas: "  r1 = cas(x, 2, 3, rlx);", prog.Fence: "  fence(rlx);",
		prog.If: "  if (2) {\n    r4 = 5;\n  } else {\n    r6 = 7;\n  }", prog.While: "  while (2) {\n    r4 = 5;\n  }",
	}
	deep, told := map[uint8]int{prog.If: 2, prog.While: 2}, map[uint8]string{prog.If: "146", prog.While: "14"}
	for kind := prog.Set; kind <= prog.While; kind++ {
		l := block{full(kind)}
		writesBlock(t, l, want[kind])
		if got := prog.Nest(l); got != max(1, deep[kind]) {
			t.Errorf("kind %d: %d deep", kind, got)
		}
		if got := toldOf(l); got != max("1", told[kind]) {
			t.Errorf("kind %d: told %q", kind, got)
		}
	}
	if got := prog.Nest(block{{Kind: prog.While, Else: nested(5, nil)}}); got != 2 { // a While has no else
		t.Errorf("a While of another one's else: %d deep", got)
	}
	if l := (block{full(0), full(10), full(255)}); prog.Nest(l) != 1 || toldOf(l) != "111" {
		t.Errorf("kinds that are none: %d deep, told %q", prog.Nest(l), toldOf(l))
	}
}

// toldOf are the registers of the statements that Walk tells, as digits.
func toldOf(l block) string {
	s := ""
	prog.Walk(l, func(x prog.Stmt) { s += strconv.Itoa(int(x.Reg)) })
	return s
}

// P4.3: how deep blocks are, those of nothing, too.
func TestNest(t *testing.T) {
	s := set(0, n(1))
	for _, c := range []struct {
		l    block
		want int
	}{
		{nil, 1}, {block{}, 1}, {block{s, s, fence(api.Sc)}, 1},
		{block{ifs(n(1), nil, nil)}, 2}, {block{while(n(1), nil)}, 2}, {block{ifs(n(1), block{s}, nil)}, 2}, {block{ifs(n(1), nil, block{s})}, 2}, {block{while(n(1), block{s, s})}, 2},
		{block{ifs(nil, block{}, block{})}, 2},
		{block{s, ifs(n(1), nil, block{while(n(1), nil)}), s}, 3},
		{block{ifs(n(1), block{while(n(1), nil)}, block{s}), while(n(1), nil)}, 3},
		{block{while(n(1), nil), while(n(1), block{while(n(1), block{while(n(1), nil)})}), ifs(n(1), nil, block{ifs(n(1), nil, nil)})}, 4},
		{block{ifs(n(1), nested(3, nil), nested(6, nil)), ifs(n(1), nested(5, nil), nested(2, nil))}, 7},
		{block{ifs(n(1), nested(7, nil), nested(6, nil)), ifs(n(1), nested(5, nil), nested(2, nil))}, 8},
		{block{ifs(n(1), nested(3, nil), nested(6, nil)), ifs(n(1), nested(5, nil), nested(9, nil))}, 9},
	} {
		if got := prog.Nest(c.l); got != c.want {
			t.Errorf("%s is %d deep, not %d", thread(c.l...).Text(), got, c.want)
		}
	}
	for deep := 1; deep < 30; deep++ {
		for _, inner := range []block{nil, {s}} {
			if got := prog.Nest(nested(deep, inner)); got != min(deep, 9) {
				t.Errorf("%d deep: %d", deep, got)
			}
		}
	}
}

// P4.3: one ahead of those of its blocks, then before else.
func TestWalk(t *testing.T) {
	l := block{
		set(1, n(1)),
		{Kind: prog.If, Reg: 2, A: n(1), Then: block{set(3, n(1)), {Kind: prog.While, Reg: 4, Then: block{set(5, n(1)), {Kind: prog.If, Reg: 6}}}, set(7, n(1))}, Else: block{{Kind: prog.If, Reg: 8, Else: block{set(9, n(1))}}}},
		load(1, 'x', api.Rlx), store('y', n(1), api.Rlx), update(prog.Cas, 3, 'x', n(1), n(2), api.Rlx), fence(api.Ar),
		{Kind: prog.While, Reg: 2, Then: block{set(1, n(1))}},
		set(0, n(1)),
	}
	if got := toldOf(l); got != "123456789"+"1030"+"21"+"0" {
		t.Errorf("told %s", got)
	}
	if toldOf(nil) != "" || toldOf(block{}) != "" {
		t.Error("something of nothing")
	}
	var first []prog.Stmt
	prog.Walk(l[:2], func(s prog.Stmt) { first = append(first, s) })
	if len(first) != 9 || !reflect.DeepEqual(first[:2], l[:2]) || !reflect.DeepEqual(first[3], l[1].Then[1]) { // each is told whole
		t.Errorf("%d told", len(first))
	}
	prog.Walk(l, nil)
}

// P4.3: down to MaxNest all is told, and nothing below.
func TestWalkOfDeep(t *testing.T) {
	for deep := 1; deep < 30; deep++ {
		told, inner := 0, 0
		prog.Walk(nested(deep, block{set(1, n(1)), set(1, n(2))}), func(s prog.Stmt) {
			told++
			inner += int(s.Reg)
		})
		wantTold, wantInner := 8, 0
		if deep <= 8 {
			wantTold, wantInner = deep+1, 2
		}
		if told != wantTold || inner != wantInner {
			t.Errorf("%d deep: %d told, %d of the deepest block", deep, told, inner)
		}
	}
}

// R1: a block that stands in itself is written, walked and held as deep as blocks may be.
func TestEndless(t *testing.T) {
	lines := map[string]int{"then": 8 + 8, "else": 8 + 8 + 8, "both": 3 * 255, "while": 8 + 8, "far": 6 * 4, "two": 6 * 255}
	told := map[string]int{"then": 8, "else": 8, "both": 255, "while": 8, "far": 3 * 4, "two": 3 * 255}
	for name, l := range endless() {
		if got := prog.Nest(l); got != 9 {
			t.Errorf("%s: %d deep", name, got)
		}
		if name == "many" { // of them all there would be too much
			continue
		}
		count := 0
		prog.Walk(l, func(prog.Stmt) { count++ })
		if count != told[name] {
			t.Errorf("%s: %d told, not %d", name, count, told[name])
		}
		if got := strings.Count(thread(l...).Text(), "\n") - 3; got != lines[name] {
			t.Errorf("%s: %d lines, not %d", name, got, lines[name])
		}
	}
}

// each are tests that are unlike all others of them: one, and what comes of it by one change, at each part.
func each() []prog.Test {
	first := prog.Test{
		Init:    []prog.Init{{Loc: 'x', N: 1}, {Loc: 'y', N: 2}},
		Threads: []block{{set(1, n(1)), load(1, 'x', api.Rlx), store('x', n(1), api.Rlx), update(prog.Swap, 1, 'x', n(1), nil, api.Rlx), update(prog.Add, 1, 'x', n(1), nil, api.Rlx), update(prog.Cas, 1, 'x', n(1), n(2), api.Rlx), fence(api.Ar)}, {ifs(reg(1), block{set(1, n(1)), while(reg(1), block{set(1, n(1))})}, block{set(1, n(1))}), while(reg(1), block{set(1, n(1)), ifs(n(1), nil, nil)})}},
		Ask:     two(api.Eq, of(0, 1), loc('x')),
	}
	l := []prog.Test{first}
	change := func(do func(t *prog.Test)) {
		c := copiedTest(first)
		do(&c)
		l = append(l, c)
	}
	change(func(t *prog.Test) { t.All = true })
	change(func(t *prog.Test) { t.Ask = n(1) })
	change(func(t *prog.Test) { t.Ask.R.X = 'y' })
	change(func(t *prog.Test) { t.Init = nil })
	change(func(t *prog.Test) { t.Init = t.Init[:1] })
	change(func(t *prog.Test) { t.Init = t.Init[1:] })
	change(func(t *prog.Test) { t.Init = append(t.Init, t.Init[1]) })
	change(func(t *prog.Test) { slices.Reverse(t.Init) })
	change(func(t *prog.Test) { t.Init[0].N = most })
	change(func(t *prog.Test) { t.Init[1].N = 3 })
	change(func(t *prog.Test) { t.Init[0].Loc = 'z' })
	change(func(t *prog.Test) { t.Init[1].Loc = 'z' })
	change(func(t *prog.Test) { t.Threads = nil })
	change(func(t *prog.Test) { t.Threads = t.Threads[:1] })
	change(func(t *prog.Test) { t.Threads = t.Threads[1:] })
	change(func(t *prog.Test) { t.Threads = append(t.Threads, nil) })
	change(func(t *prog.Test) { t.Threads = append([]block{nil}, t.Threads...) })
	change(func(t *prog.Test) { slices.Reverse(t.Threads) })
	for path := range places(first) {
		for _, turn := range turns() {
			c := copiedTest(first)
			at := placed(c, path)
			if turn(at) {
				l = append(l, c)
			}
		}
		change(func(t *prog.Test) { removed(*t, path) })
	}
	return l
}

// places is how many statements a test has, as Walk tells them.
func places(t prog.Test) int {
	count := 0
	for _, l := range t.Threads {
		prog.Walk(l, func(prog.Stmt) { count++ })
	}
	return count
}

// visit does something at each block of a test, till it says that it is done.
func visit(l *block, do func(l *block) bool) bool {
	if do(l) {
		return true
	}
	for i := range *l {
		if visit(&(*l)[i].Then, do) || visit(&(*l)[i].Else, do) {
			return true
		}
	}
	return false
}

// at finds the statement of this number, block by block: its block, and its place there.
func at(t prog.Test, number int) (*block, int) {
	var found *block
	for i := range t.Threads {
		if visit(&t.Threads[i], func(l *block) bool {
			if number < len(*l) {
				found = l
				return true
			}
			number -= len(*l)
			return false
		}) {
			break
		}
	}
	return found, number
}

func placed(t prog.Test, number int) *prog.Stmt {
	l, i := at(t, number)
	return &(*l)[i]
}

func removed(t prog.Test, number int) {
	l, i := at(t, number)
	*l = slices.Delete(*l, i, i+1)
}

// turns change one part of a statement, if its kind has that part, so that it still may be; no two changes make the same of one.
func turns() []func(s *prog.Stmt) bool {
	has := func(s *prog.Stmt, kinds ...uint8) bool { return slices.Contains(kinds, s.Kind) }
	l := []func(s *prog.Stmt) bool{
		func(s *prog.Stmt) bool {
			s.Reg = 7
			return !has(s, prog.Store, prog.Fence, prog.If, prog.While)
		},
		func(s *prog.Stmt) bool {
			s.Loc = 'w'
			return has(s, prog.Load, prog.Store, prog.Swap, prog.Add, prog.Cas)
		},
		func(s *prog.Stmt) bool {
			s.A = two(api.Sub, n(3), reg(2))
			return !has(s, prog.Load, prog.Fence)
		},
		func(s *prog.Stmt) bool {
			s.B = two(api.Sub, n(3), reg(2))
			return has(s, prog.Cas)
		},
		func(s *prog.Stmt) bool {
			s.Then = append(s.Then, fence(api.Sc))
			return has(s, prog.If, prog.While)
		},
		func(s *prog.Stmt) bool {
			s.Then = append(block{fence(api.Sc)}, s.Then...)
			return has(s, prog.If, prog.While) && len(s.Then) > 1
		},
		func(s *prog.Stmt) bool {
			s.Else = append(s.Else, fence(api.Sc))
			return has(s, prog.If)
		},
		func(s *prog.Stmt) bool {
			s.Then, s.Else = s.Else, s.Then
			return has(s, prog.If) && len(s.Then)+len(s.Else) > 0
		},
		func(s *prog.Stmt) bool {
			s.Kind++
			return has(s, prog.Add) // made of a Swap
		},
		func(s *prog.Stmt) bool {
			if has(s, prog.If) && len(s.Else) == 0 {
				s.Kind = prog.While
				return true
			}
			return false
		},
	}
	for m := api.Pln; m <= api.Sc; m++ {
		l = append(l, func(s *prog.Stmt) bool {
			if s.Mode == m || !slices.Contains(prog.Modes(s.Kind), m) {
				return false
			}
			s.Mode = m
			return true
		})
	}
	return l
}

// P4.4, P4.5: tests that differ in one part alone are unlike, and written unlike; each is like its copy.
func TestSameAndUnlike(t *testing.T) {
	l := each()
	if len(l) < 70 {
		t.Fatalf("%d tests", len(l))
	}
	for i, a := range l {
		c := copiedTest(a)
		for j, b := range l {
			if got := prog.Same(c, b); got != (i == j) {
				t.Errorf("alike: %t\n%s\n%s", got, a.Text(), b.Text())
			}
			if got := c.Text() == b.Text(); got != (i == j) {
				t.Errorf("written alike: %t\n%s", got, a.Text())
			}
		}
	}
}

// P4.4: nil is like nil, and like no other; an expression that may not be is like none, itself neither.
func TestSameOfExpressions(t *testing.T) {
	with := map[string]func(e *expr.Expr) prog.Test{
		"ask":    func(e *expr.Expr) prog.Test { return prog.Test{Ask: e} },
		"A":      func(e *expr.Expr) prog.Test { return thread(set(0, e)) },
		"B":      func(e *expr.Expr) prog.Test { return thread(update(prog.Cas, 0, 'x', n(1), e, api.Rlx)) },
		"nested": func(e *expr.Expr) prog.Test { return thread(ifs(n(1), nil, block{while(e, nil)})) },
		"a part its kind has not": func(e *expr.Expr) prog.Test {
			return thread(prog.Stmt{Kind: prog.Fence, B: e})
		},
	}
	for name, test := range with {
		if !prog.Same(test(nil), test(nil)) || !prog.Same(test(reg(1)), test(reg(1))) {
			t.Errorf("%s: unlike itself", name)
		}
		if prog.Same(test(reg(1)), test(reg(2))) || prog.Same(test(nil), test(n(0))) || prog.Same(test(n(0)), test(nil)) {
			t.Errorf("%s: like another one", name)
		}
		for _, e := range wrongExprs()[1:] {
			if prog.Same(test(e), test(e)) || prog.Same(test(e), test(nil)) || prog.Same(test(nil), test(e)) {
				t.Errorf("%s: what may not be is like something", name)
			}
		}
	}
}

// P4.4: every part counts, also those that a kind does not have; lists of nothing are all alike.
func TestSameOfParts(t *testing.T) {
	for _, kind := range []uint8{0, prog.Set, prog.Load, prog.Store, prog.Swap, prog.Add, prog.Cas, prog.Fence, prog.If, prog.While, 10, 255} {
		a := thread(full(kind))
		for name, change := range map[string]func(s *prog.Stmt){
			"Kind": func(s *prog.Stmt) { s.Kind++ }, "Reg": func(s *prog.Stmt) { s.Reg++ }, "Mode": func(s *prog.Stmt) { s.Mode++ }, "Loc": func(s *prog.Stmt) { s.Loc++ },
			"A": func(s *prog.Stmt) { s.A = n(9) }, "B": func(s *prog.Stmt) { s.B = n(9) }, "no A": func(s *prog.Stmt) { s.A = nil }, "no B": func(s *prog.Stmt) { s.B = nil },
			"Then": func(s *prog.Stmt) { s.Then[0].Reg = 9 }, "Else": func(s *prog.Stmt) { s.Else[0].Reg = 9 }, "no Then": func(s *prog.Stmt) { s.Then = nil }, "no Else": func(s *prog.Stmt) { s.Else = nil },
			"more in Then": func(s *prog.Stmt) { s.Then = append(s.Then, s.Then[0]) }, "more in Else": func(s *prog.Stmt) { s.Else = append(s.Else, s.Else[0]) },
		} {
			b := copiedTest(a)
			if !prog.Same(a, b) {
				t.Errorf("kind %d: unlike itself", kind)
			}
			change(&b.Threads[0][0])
			if prog.Same(a, b) || prog.Same(b, a) {
				t.Errorf("kind %d, another %s: alike", kind, name)
			}
		}
	}
	if !prog.Same(prog.Test{}, prog.Test{Init: []prog.Init{}, Threads: []block{}}) || !prog.Same(prog.Test{Threads: []block{nil}}, prog.Test{Threads: []block{{}}}) {
		t.Error("nothing is unlike nothing")
	}
	if !prog.Same(thread(ifs(n(1), nil, block{})), thread(ifs(n(1), block{}, nil))) {
		t.Error("an empty block is unlike another one")
	}
}

// P4.4: blocks deeper than MaxNest are parts too, and end though what they hold is there more than once.
func TestSameOfDeep(t *testing.T) {
	for _, deep := range []int{7, 8, 9, 10, 30, 1000} {
		a, b, c := thread(nested(deep, block{set(1, n(1))})...), thread(nested(deep, block{set(1, n(1))})...), thread(nested(deep, block{set(1, n(2))})...)
		if !prog.Same(a, b) || !prog.Same(a, a) || prog.Same(a, c) || prog.Same(c, a) || prog.Same(a, thread(nested(deep+1, block{set(1, n(1))})...)) {
			t.Errorf("%d deep", deep)
		}
	}
	shared := func(inner block) prog.Test {
		for range 200 {
			inner = block{ifs(n(1), inner, inner)}
		}
		return thread(inner...)
	}
	a, b := shared(block{set(1, n(1))}), shared(block{set(1, n(2))})
	if !prog.Same(a, a) || !prog.Same(a, shared(block{set(1, n(1))})) || prog.Same(a, b) {
		t.Error("200 deep, each block twice")
	}
}

// P4.4, R1: blocks that stand in themselves are alike if no part differs, however they come to stand there.
func TestSameOfEndless(t *testing.T) {
	again := endless()
	for name, l := range endless() {
		for other, m := range again {
			if got := prog.Same(thread(l...), thread(m...)); got != (name == other) {
				t.Errorf("%s and %s: alike %t", name, other, got)
			}
		}
		m := slices.Clone(again[name])
		m[0].Loc = 'z' // in the first block alone: the blocks in it are those of before
		if prog.Same(thread(l...), thread(m...)) || prog.Same(thread(m...), thread(l...)) {
			t.Errorf("%s is like another one", name)
		}
	}
	for _, lengths := range [][2]int{{1, 2}, {2, 3}, {4, 6}, {5, 7}, {20, 30}} {
		a, b := rings(lengths[0]), rings(lengths[1])
		if !prog.Same(thread(a...), thread(b...)) {
			t.Errorf("rings of %v: unlike", lengths)
		}
		b[0].Then[0].Reg++
		if prog.Same(thread(a...), thread(b...)) || prog.Same(thread(b...), thread(a...)) {
			t.Errorf("rings of %v, one part another: alike", lengths)
		}
	}
	for _, kind := range []uint8{0, prog.Set, prog.Fence, 77} { // blocks that a kind does not have
		l := block{{Kind: kind}}
		l[0].Then, l[0].Else = l, l
		if !prog.Same(thread(l...), thread(l...)) || prog.Nest(l) != 1 || prog.Same(thread(l...), thread(prog.Stmt{Kind: kind, Then: l})) {
			t.Errorf("kind %d", kind)
		}
	}
	if a := endless()["then"]; prog.Same(thread(a...), thread(nested(50, nil)...)) || prog.Same(thread(ifs(n(1), nil, nil)), thread(a...)) {
		t.Error("what ends is like what does not")
	}
	a, b := make(block, 2), make(block, 2) // blocks that begin at the same statement, and are of two lengths
	a[0], a[1] = while(n(1), a), set(1, n(1))
	b[0], b[1] = while(n(1), b), set(1, n(2))
	if prog.Same(thread(a[:1]...), thread(b[:1]...)) || !prog.Same(thread(a[:1]...), thread(while(n(1), a))) {
		t.Error("a block was taken for its beginning")
	}
}

// rings are so many blocks, each in the one ahead, and the first one in the last; all look the same.
func rings(count int) block {
	first := block{while(n(1), nil)}
	l := first
	for range count - 1 {
		l = block{while(n(1), l)}
	}
	first[0].Then = l
	return l
}

// chance makes tests by chance; wild ones also of parts that may not be.
type chance struct {
	*rand.Rand
	wild bool
}

func (c chance) expr() *expr.Expr {
	l := []*expr.Expr{n(0), n(1), n(most), reg(0), reg(7), of(3, 2), loc('x'), one(api.Not, reg(1)), two(api.Sub, n(2), two(api.Sub, reg(1), n(1))), two(api.Mul, two(api.Or, n(1), reg(3)), n(5))}
	if c.wild && c.Intn(5) == 0 {
		l = wrongExprs()
	}
	return l[c.Intn(len(l))]
}

func (c chance) stmt(room int) prog.Stmt {
	kind := prog.Set + uint8(c.Intn(7))
	if room > 1 && c.Intn(2) == 0 {
		kind = prog.If + uint8(c.Intn(2))
	}
	s := prog.Stmt{Kind: kind, Reg: uint8(c.Intn(8)), Loc: 'w' + byte(c.Intn(4)), A: c.expr(), B: c.expr()}
	if m := prog.Modes(kind); m != nil {
		s.Mode = m[c.Intn(len(m))]
	}
	if kind == prog.If || kind == prog.While {
		s.Then, s.Else = c.block(room-1), c.block(room-1)
	}
	if c.wild {
		switch c.Intn(12) {
		case 0:
			s.Kind = uint8(c.Intn(256))
		case 1:
			s.Mode = uint8(c.Intn(256))
		case 2:
			s.Loc = byte(c.Intn(256))
		case 3:
			s.Reg = uint8(c.Intn(256))
		}
		return s
	}
	return only(s)
}

// only is what a statement's kind has of it.
func only(s prog.Stmt) prog.Stmt {
	switch s.Kind {
	case prog.Set:
		return set(s.Reg, s.A)
	case prog.Load:
		return load(s.Reg, s.Loc, s.Mode)
	case prog.Store:
		return store(s.Loc, s.A, s.Mode)
	case prog.Swap, prog.Add:
		return update(s.Kind, s.Reg, s.Loc, s.A, nil, s.Mode)
	case prog.Cas:
		return update(s.Kind, s.Reg, s.Loc, s.A, s.B, s.Mode)
	case prog.Fence:
		return fence(s.Mode)
	case prog.If:
		return ifs(s.A, s.Then, s.Else)
	}
	return while(s.A, s.Then)
}

func (c chance) block(room int) block {
	var l block
	for range c.Intn(3) {
		l = append(l, c.stmt(room))
	}
	return l
}

func (c chance) test() prog.Test {
	t := prog.Test{All: c.Intn(2) == 0, Ask: c.expr()}
	for range c.Intn(3) {
		t.Init = append(t.Init, prog.Init{Loc: 'w' + byte(c.Intn(4)), N: c.Uint64() >> c.Intn(64)})
	}
	room := api.MaxNest
	if c.wild {
		room += 3
	}
	for range c.Intn(4) {
		t.Threads = append(t.Threads, c.block(room))
	}
	return t
}

// lines are a block's, as the document has them, each one moved to the right by what it stands in.
func lines(l block, deep int) []string {
	var out []string
	if deep > 8 {
		return nil
	}
	for _, s := range l {
		head, mode := "r"+strconv.Itoa(int(s.Reg))+" = ", map[uint8]string{1: "pln", 2: "rlx", 3: "acq", 4: "rel", 5: "ar", 6: "sc"}[s.Mode]
		x, a, b := string([]byte{s.Loc}), s.A.Text(), s.B.Text()
		var more []string
		switch s.Kind {
		case 1:
			more = []string{head + a + ";"}
		case 2:
			more = []string{head + "load(" + x + ", " + mode + ");"}
		case 3:
			more = []string{"store(" + x + ", " + a + ", " + mode + ");"}
		case 4, 5:
			more = []string{head + []string{"swap(", "add("}[s.Kind-4] + x + ", " + a + ", " + mode + ");"}
		case 6:
			more = []string{head + "cas(" + x + ", " + a + ", " + b + ", " + mode + ");"}
		case 7:
			more = []string{"fence(" + mode + ");"}
		case 8:
			more = append([]string{"if (" + a + ") {"}, lines(s.Then, deep+1)...)
			if len(s.Else) != 0 {
				more = append(append(more, "} else {"), lines(s.Else, deep+1)...)
			}
			more = append(more, "}")
		case 9:
			more = slices.Concat([]string{"while (" + a + ") {"}, lines(s.Then, deep+1), []string{"}"})
		}
		out = append(out, more...)
	}
	for i := range out {
		out[i] = "  " + out[i]
	}
	return out
}

// P4.1: any tests, also of parts that may not be.
func TestTextOfAny(t *testing.T) {
	for _, wild := range []bool{false, true} {
		c := chance{rand.New(rand.NewSource(1)), wild}
		for range 2000 {
			test := c.test()
			var want []string
			for _, i := range test.Init {
				want = append(want, "init "+string(rune(i.Loc))+" = "+strconv.FormatUint(i.N, 10)+";")
			}
			for _, l := range test.Threads {
				want = append(append(append(want, "thread {"), lines(l, 1)...), "}")
			}
			writes(t, test, append(want, map[bool]string{false: "exists ", true: "forall "}[test.All]+test.Ask.Text()+";")...)
		}
	}
}

// heights is how deep blocks are, and what Walk tells of them, as the document says it.
func heights(l block, deep int) (int, []prog.Stmt) {
	most, told := deep, []prog.Stmt(nil)
	for _, s := range l {
		if deep <= 8 {
			told = append(told, s)
		}
		var parts []block
		if s.Kind == prog.If {
			parts = []block{s.Then, s.Else}
		} else if s.Kind == prog.While {
			parts = []block{s.Then}
		}
		for _, p := range parts {
			m, more := heights(p, deep+1)
			most, told = max(most, m), append(told, more...)
		}
	}
	return most, told
}

// P4.3: any blocks, also of parts that may not be.
func TestNestAndWalkOfAny(t *testing.T) {
	c := chance{rand.New(rand.NewSource(2)), true}
	met := map[int]bool{}
	for range 5000 {
		l := c.block(api.MaxNest + 3)
		want, told := heights(l, 1)
		met[want] = true
		if got := prog.Nest(l); got != min(want, 9) {
			t.Fatalf("%d deep, not %d", got, want)
		}
		var got []prog.Stmt
		prog.Walk(l, func(s prog.Stmt) { got = append(got, s) })
		if !reflect.DeepEqual(got, told) {
			t.Fatalf("%d told, not %d", len(got), len(told))
		}
	}
	for deep := 1; deep <= 10; deep++ {
		if !met[deep] {
			t.Errorf("none was %d deep", deep)
		}
	}
}

// reader reads what was written; expressions it knows by their texts, which are unlike (3).
type reader struct {
	lines []string
	exprs map[string]*expr.Expr
}

func (r *reader) next() string {
	s := r.lines[0]
	r.lines = r.lines[1:]
	return strings.TrimLeft(s, " ")
}

func digit(s string) uint8 {
	v, _ := strconv.Atoi(s)
	return uint8(v)
}

// statement reads one of a line that is no block's end.
func (r *reader) statement(line string) prog.Stmt {
	if a, ok := strings.CutPrefix(line, "if ("); ok {
		s := ifs(r.exprs[strings.TrimSuffix(a, ") {")], nil, nil)
		end := ""
		if s.Then, end = r.block(); end == "} else {" {
			s.Else, _ = r.block()
		}
		return s
	}
	if a, ok := strings.CutPrefix(line, "while ("); ok {
		s := while(r.exprs[strings.TrimSuffix(a, ") {")], nil)
		s.Then, _ = r.block()
		return s
	}
	line = strings.TrimSuffix(line, ";")
	head, rest, gets := strings.Cut(line, " = ")
	if !gets {
		rest = head
	}
	mode := func(m string) uint8 {
		return uint8(slices.Index([]string{"pln", "rlx", "acq", "rel", "ar", "sc"}, m) + 1)
	}
	i := digit(strings.TrimPrefix(head, "r"))
	for _, name := range []string{"load", "store", "swap", "add", "cas", "fence"} {
		if inner, ok := strings.CutPrefix(rest, name+"("); ok {
			p := strings.Split(strings.TrimSuffix(inner, ")"), ", ")
			m := mode(p[len(p)-1])
			switch name {
			case "load":
				return load(i, p[0][0], m)
			case "store":
				return store(p[0][0], r.exprs[p[1]], m)
			case "swap":
				return update(prog.Swap, i, p[0][0], r.exprs[p[1]], nil, m)
			case "add":
				return update(prog.Add, i, p[0][0], r.exprs[p[1]], nil, m)
			case "cas":
				return update(prog.Cas, i, p[0][0], r.exprs[p[1]], r.exprs[p[2]], m)
			}
			return fence(m)
		}
	}
	return set(i, r.exprs[rest])
}

// block reads statements up to the line that ends their block.
func (r *reader) block() (block, string) {
	var l block
	for {
		line := r.next()
		if strings.HasPrefix(line, "}") {
			return l, line
		}
		l = append(l, r.statement(line))
	}
}

func (r *reader) test() prog.Test {
	var t prog.Test
	for {
		line := r.next()
		if line == "thread {" {
			l, _ := r.block()
			t.Threads = append(t.Threads, l)
			continue
		}
		word, rest, _ := strings.Cut(strings.TrimSuffix(line, ";"), " ")
		if word == "init" {
			v, _ := strconv.ParseUint(rest[4:], 10, 64)
			t.Init = append(t.Init, prog.Init{Loc: rest[0], N: v})
			continue
		}
		t.All, t.Ask = word == "forall", r.exprs[rest]
		return t
	}
}

// P4.4, P4.5: what is written is what was meant, so tests that are unlike are written unlike.
func TestWrittenAndRead(t *testing.T) {
	c := chance{rand.New(rand.NewSource(3)), false}
	texts := map[string]prog.Test{}
	exprs := map[string]*expr.Expr{}
	for range 1000 {
		e := c.expr()
		exprs[e.Text()] = e
	}
	for range 3000 {
		test := c.test()
		s := test.Text()
		r := reader{strings.Split(strings.TrimSuffix(s, "\n"), "\n"), exprs}
		back := r.test()
		if !reflect.DeepEqual(back, test) || !prog.Same(back, test) || back.Text() != s || len(r.lines) != 0 {
			t.Fatalf("not what was written:\n%s\n%s", s, back.Text())
		}
		if o, is := texts[s]; is && !prog.Same(o, test) {
			t.Fatalf("two that are unlike:\n%s", s)
		}
		texts[s] = test
	}
	if len(texts) < 2000 {
		t.Errorf("only %d texts", len(texts))
	}
}

// R2, R3: no call changes a test, nor the room behind its lists; the same call answers the same again.
func TestNothingChanges(t *testing.T) {
	c := chance{rand.New(rand.NewSource(4)), false}
	for range 300 {
		test := c.test()
		for i, l := range test.Threads {
			roomy := append(slices.Clone(l), set(9, n(9)), set(9, n(9)))
			test.Threads[i] = roomy[:len(l)]
		}
		test.Init = append(slices.Clone(test.Init), prog.Init{Loc: 'q', N: 9})[:len(test.Init)]
		old := copiedTest(test)
		text := test.Text()
		for _, l := range test.Threads {
			deep, told := prog.Nest(l), toldOf(l)
			prog.Walk(l, func(s prog.Stmt) { s.Kind, s.Reg, s.A, s.Then, s.Else = 0, 200, nil, nil, nil })
			if prog.Nest(l) != deep || toldOf(l) != told || !reflect.DeepEqual(l[:len(l)+2][len(l):], block{set(9, n(9)), set(9, n(9))}) {
				t.Fatalf("changed:\n%s", text)
			}
		}
		if !prog.Same(test, old) || !prog.Same(test, test) || test.Text() != text || !reflect.DeepEqual(test, old) || test.Init[:len(test.Init)+1][len(test.Init)].N != 9 {
			t.Fatalf("changed:\n%s", text)
		}
	}
}
