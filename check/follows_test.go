package check_test

import (
	"math/rand"
	"slices"
	"testing"

	"troth/api"
	"troth/check"
	"troth/expr"
	"troth/lex"
	"troth/parse"
	"troth/prog"
)

// chosen makes tests by chance.
type chosen struct{ *rand.Rand }

func (c chosen) of(l ...*expr.Expr) *expr.Expr { return l[c.Intn(len(l))] }

func (c chosen) letter() byte { return "xyxyxyzab"[c.Intn(9)] }

// expr is one of at most so much depth over leaves.
func (c chosen) expr(most int, leaf func() *expr.Expr) *expr.Expr {
	switch {
	case most <= 1 || c.Intn(3) == 0:
		return leaf()
	case c.Intn(3) == 0:
		return one(api.Not+uint8(c.Intn(2)), c.expr(most-1, leaf))
	}
	return two(api.Eq+uint8(c.Intn(12)), c.expr(most-1, leaf), c.expr(most-1, leaf))
}

func (c chosen) known() *expr.Expr {
	return c.of(n(uint64(c.Intn(3))), n(most), reg(uint8(c.Intn(8))))
}

func (c chosen) asked() *expr.Expr {
	return c.of(n(uint64(c.Intn(3))), of(uint8(c.Intn(2)), uint8(c.Intn(8))), of(uint8(c.Intn(4)), 1), loc(c.letter()))
}

// block is one in which so many blocks may stand in one another.
func (c chosen) block(room int) block {
	var l block
	for range c.Intn(3) {
		l = append(l, c.stmt(room))
	}
	return l
}

func (c chosen) stmt(room int) prog.Stmt {
	kinds := prog.While
	if room == 0 {
		kinds = prog.Fence
	}
	s := prog.Stmt{Kind: 1 + uint8(c.Intn(int(kinds)))}
	for _, part := range partsOf(s.Kind) {
		switch part {
		case "reg":
			s.Reg = uint8(c.Intn(8))
		case "loc":
			s.Loc = c.letter()
		case "mode":
			modes := modesOf(s.Kind)
			s.Mode = modes[c.Intn(len(modes))]
		case "A":
			s.A = c.expr(4, c.known)
		case "B":
			s.B = c.expr(4, c.known)
		case "then":
			s.Then = c.block(room - 1)
		case "else":
			s.Else = c.block(room - 1)
		}
	}
	return s
}

func (c chosen) test() prog.Test {
	t := prog.Test{All: c.Intn(2) == 0, Ask: c.expr(4, c.asked)}
	for range c.Intn(3) {
		t.Init = append(t.Init, prog.Init{Loc: c.letter(), N: c.Uint64()})
	}
	for range c.Intn(5) {
		t.Threads = append(t.Threads, c.block(c.Intn(9)))
	}
	return t
}

// spoil changes one thing of a test.
func (c chosen) spoil(t *prog.Test) {
	wrong := []*expr.Expr{nil, n(1), reg(3), reg(8), of(0, 0), of(3, 7), of(4, 0), loc('x'), loc('r'), leftOf(12, n(1)), leftOf(13, n(1)), one(api.Add, n(1))}
	s := c.some(t.Threads)
	if s == nil {
		s = &prog.Stmt{}
	}
	switch c.Intn(12) {
	case 0:
		t.Ask = c.of(wrong...)
	case 1:
		t.Init = append(t.Init, prog.Init{Loc: "xr0"[c.Intn(3)]})
	case 2:
		t.Threads = append(t.Threads, nil, block{{Kind: uint8(c.Intn(12)), A: n(1)}})
	case 3:
		s.Kind = uint8(c.Intn(11))
	case 4:
		s.Reg = uint8(c.Intn(10))
	case 5:
		s.Mode = uint8(c.Intn(8))
	case 6:
		s.Loc = "\x00xyrX"[c.Intn(5)]
	case 7:
		s.A = c.of(wrong...)
	case 8:
		s.B = c.of(wrong...)
	case 9:
		s.Then = nested(1+c.Intn(9), while, nil)
	case 10:
		s.Else = block{set(1, n(1))}
	case 11:
		t.Threads = nil
	}
}

// some is a statement among those of blocks, or nil.
func (c chosen) some(blocks []block) *prog.Stmt {
	var l []*prog.Stmt
	for _, b := range blocks {
		for i := range b {
			l = append(l, &b[i])
			if inner := c.some([]block{b[i].Then, b[i].Else}); inner != nil {
				l = append(l, inner)
			}
		}
	}
	if len(l) == 0 {
		return nil
	}
	return l[c.Intn(len(l))]
}

// answer is what the document says of a test that was parsed, by the pieces of its text: names that are words of one letter stand for nothing but locations.
func answer(text string) (string, api.Errno) {
	pieces, _, _ := lex.Lex(text)
	threads, asked := 0, 0
	var names, starts []string
	for i, p := range pieces {
		switch {
		case p.Text == "thread":
			threads++
		case p.Kind == lex.Word && len(p.Text) == 1:
			names = append(names, p.Text)
			if pieces[max(i-1, 0)].Text == "init" {
				starts = append(starts, p.Text)
			}
		case p.Text == ":":
			asked = max(asked, 1+int(pieces[i-1].N))
		}
	}
	locs := sorted(names...)
	switch {
	case threads == 0 || len(starts) != len(sorted(starts...)):
		return "", api.ErrArg
	case len(locs) > 4:
		return "", api.ErrLimit
	case asked > threads:
		return "", api.ErrName
	}
	return locs, api.OK
}

// P6.3: a test that is parsed may be, but for two starting values of one location, and for having no thread.
func TestParsed(t *testing.T) {
	for text, want := range map[string]api.Errno{
		"exists 1;":             api.ErrArg,
		"init x = 1; forall x;": api.ErrArg,
		"thread { } exists 1;":  api.OK,
		"init x = 1; init x = 1; thread { } exists 1;":                                                                          api.ErrArg,
		"init x = 1; init y = 1; init x = 2; thread { } exists 1;":                                                              api.ErrArg,
		"init d = 1; thread { r0 = load(c, pln); } thread { } thread { store(b, 1, rel); } thread { fence(sc); } exists a;":     api.OK,
		"init d = 1; thread { r0 = load(c, pln); } thread { } thread { store(b, 1, rel); } thread { fence(sc); } exists a + e;": api.ErrLimit,
		"thread { while (r1) { if (1) { } else { r0 = cas(x, 0, 1, ar); } } } forall 0:r0 == 1 & x;":                            api.OK,
		"thread { while (r1) { if (1) { } else { r0 = cas(x, 0, 1, ar); } } } forall 1:r0 == 1 & x;":                            api.ErrName,
		"thread { } thread { } exists 3:r0 + 1:r1;":                                                                             api.ErrName,
	} {
		test, _, err := parse.Parse(text)
		if err != api.OK {
			t.Fatalf("%s: %v", text, err)
		}
		locs, err := check.Check(test)
		wantLocs, wantErr := answer(text)
		if err != want || err != wantErr || locs != wantLocs {
			t.Errorf("%s: %q, %v, not %q, %v", text, locs, err, wantLocs, want)
		}
	}
}

// P6.1, P6.3: tests by chance, spoilt by chance: Check passes just those that are written and parsed as themselves, if what their text names may be.
func TestWrittenAndParsed(t *testing.T) {
	c := chosen{rand.New(rand.NewSource(6))}
	met := map[api.Errno]int{}
	for range 10000 {
		test := c.test()
		for range c.Intn(3) {
			c.spoil(&test)
		}
		text := test.Text()
		if len(text) > api.MaxText {
			continue
		}
		locs, err := check.Check(test)
		read, _, fault := parse.Parse(text)
		var want string
		wantErr := api.ErrArg
		if fault == api.OK && prog.Same(read, test) {
			want, wantErr = answer(text)
		} else if err == api.ErrLimit && tooMuch(test) {
			wantErr = err
		}
		if locs != want || err != wantErr {
			t.Fatalf("%q, %v, not %q, %v (parsed: %v)\n%s", locs, err, want, wantErr, fault, text)
		}
		met[err]++
	}
	for _, err := range []api.Errno{api.OK, api.ErrArg, api.ErrLimit, api.ErrName} {
		if met[err] < 100 {
			t.Errorf("%v: only %d", err, met[err])
		}
	}
}

// tooMuch tells whether a test has what parse refuses as ErrLimit, and could have it beside nothing else that is wrong.
func tooMuch(test prog.Test) bool {
	return len(test.Threads) > api.MaxThreads || slices.ContainsFunc(test.Threads, func(l block) bool { return prog.Nest(l) > api.MaxNest })
}

// P6.3: what is as deep as it may be, or as much, is written and parsed as itself.
func TestDeepestWrittenAndParsed(t *testing.T) {
	for name, wrap := range wraps() {
		test := prog.Test{Init: starts("xyz").Init, Threads: slices.Repeat([]block{nested(8, wrap, block{store('a')})}, 4), Ask: leftOf(12, of(3, 7))}
		is(t, name, test, "axyz")
		read, at, err := parse.Parse(test.Text())
		if err != api.OK || !prog.Same(read, test) {
			t.Errorf("%s: %v at %v\n%s", name, err, at, test.Text())
		}
		is(t, name+", parsed", read, "axyz")
	}
}
