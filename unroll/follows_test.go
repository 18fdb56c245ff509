package unroll_test

import (
	"math/rand"
	"reflect"
	"strconv"
	"strings"
	"testing"

	"troth/api"
	"troth/check"
	"troth/expr"
	"troth/prog"
	"troth/unroll"
)

// chosen makes texts of tests by chance.
type chosen struct{ *rand.Rand }

func (c chosen) of(l ...string) string { return l[c.Intn(len(l))] }

func (c chosen) reg() string { return "r" + strconv.Itoa(c.Intn(4)) }

func (c chosen) expr() string {
	return c.of(c.reg(), c.reg(), "0", "1", c.reg()+" == "+c.reg(), "!"+c.reg(), c.reg()+" + 1", c.reg()+" & 1", "1 - "+c.reg())
}

func (c chosen) body(room int) string {
	var b strings.Builder
	for range c.Intn(4) {
		b.WriteString(c.stmt(room) + " ")
	}
	return b.String()
}

// stmt is one in which so many blocks may stand in one another.
func (c chosen) stmt(room int) string {
	kinds := 12
	if room == 0 {
		kinds = 8
	}
	x := c.of("x", "y", "z")
	switch c.Intn(kinds) {
	case 0, 1:
		return c.reg() + " = " + c.expr() + ";"
	case 2:
		return c.reg() + " = load(" + x + ", " + c.of("pln", "rlx", "acq") + ");"
	case 3:
		return "store(" + x + ", " + c.expr() + ", " + c.of("pln", "rlx", "rel") + ");"
	case 4, 5:
		return c.reg() + " = " + c.of("swap", "add") + "(" + x + ", " + c.expr() + ", " + c.of("rlx", "acq", "rel", "ar") + ");"
	case 6:
		return c.reg() + " = cas(" + x + ", " + c.expr() + ", " + c.expr() + ", " + c.of("rlx", "acq", "rel", "ar") + ");"
	case 7:
		return "fence(" + c.of("acq", "rel", "ar", "sc") + ");"
	case 8, 9:
		return "while (" + c.expr() + ") { " + c.body(room-1) + "}"
	case 10:
		return "if (" + c.expr() + ") { " + c.body(room-1) + "}"
	}
	return "if (" + c.expr() + ") { " + c.body(room-1) + "} else { " + c.body(room-1) + "}"
}

func (c chosen) test(t *testing.T) prog.Test {
	t.Helper()
	var l []string
	for range 1 + c.Intn(3) {
		l = append(l, c.body(c.Intn(4)))
	}
	return parsed(t, c.of("", "init y = 2; ", "init w = 1; ")+strings.TrimSuffix(threads(l...), "exists 1;")+c.of("exists", "forall")+c.of(" 0:r1 == x;", " 1;", " z;"))
}

// piece is the code of a part of a thread, put behind so many instructions, and where it begins.
type piece struct {
	code  []unroll.Instr
	begin int
}

// parts is a piece of all of a row, each one put behind those ahead of it.
func parts(ahead int, l ...func(ahead int) piece) piece {
	var whole piece
	for _, make := range l {
		p := make(ahead + len(whole.code))
		whole = piece{append(whole.code, p.code...), p.begin}
	}
	return whole
}

// blockOf is what the document says of a block that goes on to a place.
func blockOf(l []prog.Stmt, locs string, k, ahead, to int) piece {
	if len(l) == 0 {
		return piece{nil, to}
	}
	last := len(l) - 1
	p := stmtOf(l[last], locs, k, ahead, to)
	rest := blockOf(l[:last], locs, k, ahead+len(p.code), p.begin)
	return piece{append(p.code, rest.code...), rest.begin}
}

func stmtOf(s prog.Stmt, locs string, k, ahead, to int) piece {
	switch s.Kind {
	case prog.If:
		then := blockOf(s.Then, locs, k, ahead, to)
		els := blockOf(s.Else, locs, k, ahead+len(then.code), to)
		code := append(then.code, els.code...)
		return piece{append(code, unroll.Instr{Kind: unroll.Branch, A: s.A, Next: then.begin, Else: els.begin}), ahead + len(code)}
	case prog.While:
		return loopOf(s, locs, k, k, ahead, to)
	}
	x := unroll.Instr{Kind: s.Kind, Reg: s.Reg, Mode: s.Mode, A: s.A, B: s.B, Next: to, Else: to}
	if s.Loc != 0 {
		x.Loc = strings.Index(locs, string(rune(s.Loc)))
	}
	return piece{[]unroll.Instr{x}, ahead}
}

// loopOf has so many iterations left to put.
func loopOf(s prog.Stmt, locs string, k, left, ahead, to int) piece {
	branch := func(then int) func(ahead int) piece {
		return func(ahead int) piece {
			return piece{[]unroll.Instr{{Kind: unroll.Branch, A: s.A, Next: then, Else: to}}, ahead}
		}
	}
	if left == 0 {
		stuck := func(ahead int) piece {
			return piece{[]unroll.Instr{{Kind: unroll.Stuck, Next: ahead, Else: ahead}}, ahead}
		}
		return parts(ahead, stuck, branch(ahead))
	}
	fewer := loopOf(s, locs, k, left-1, ahead, to)
	block := blockOf(s.Then, locs, k, ahead+len(fewer.code), fewer.begin)
	return parts(ahead, func(int) piece { return fewer }, func(int) piece { return block }, branch(block.begin))
}

// each tells so many tests by chance with their programs, those that are not too long.
func each(t *testing.T, seed int64, count int, do func(c chosen, test prog.Test, k int, p unroll.Program)) {
	t.Helper()
	c := chosen{rand.New(rand.NewSource(seed))}
	met := map[api.Errno]int{}
	for range count {
		test, k := c.test(t), c.Intn(9)
		if c.Intn(2) == 0 {
			k = c.Intn(4)
		}
		p, err := unroll.Unroll(test, k)
		if met[err]++; err == api.OK {
			do(c, test, k, p)
		}
	}
	if met[api.OK] < count/4 {
		t.Errorf("%v", met)
	}
}

// P7.1: tests by chance: code and limit are what the document says.
func TestCodeOfAny(t *testing.T) {
	c := chosen{rand.New(rand.NewSource(7))}
	met := map[int]int{}
	for range 20000 {
		test, k := c.test(t), c.Intn(4)
		locs, err := check.Check(test)
		want, most := unroll.Program{Locs: locs, Start: check.Start(test, locs), All: test.All, Ask: test.Ask}, 0
		for _, l := range test.Threads {
			p := blockOf(l, locs, k, 0, -1)
			want.Threads = append(want.Threads, unroll.Thread{Code: p.code, Begin: p.begin})
			most = max(most, len(p.code))
		}
		if most > 32 {
			want, err = unroll.Program{}, api.ErrLimit
		} else if err != api.OK {
			want = unroll.Program{}
		}
		if got, e := unroll.Unroll(test, k); e != err || !reflect.DeepEqual(got, want) {
			t.Fatalf("k = %d: %v, %v\nnot %v, %v\n%s", k, got, e, want, err, test.Text())
		}
		met[most]++
	}
	for _, most := range []int{0, 1, 31, 32, 33} {
		if met[most] < 10 {
			t.Errorf("only %d tests of %d instructions", met[most], most)
		}
	}
}

// run is what a thread does: accesses, told in order, and what reading ones read.
type run struct {
	regs  [api.Registers]uint64
	read  *rand.Rand
	trace []string
}

func (r *run) value(e *expr.Expr) uint64 {
	return e.Eval(func(x expr.Expr) uint64 { return r.regs[x.I] })
}

// plain does what has no blocks.
func (r *run) plain(kind, reg, mode uint8, loc byte, a, b *expr.Expr) {
	if kind == prog.Set {
		r.regs[reg] = r.value(a)
		return
	}
	r.trace = append(r.trace, strings.Join([]string{strconv.Itoa(int(kind)), string(rune('0' + loc)), prog.Mode(mode), strconv.FormatUint(r.value(a), 10), strconv.FormatUint(r.value(b), 10)}, " "))
	if kind != prog.Store && kind != prog.Fence {
		r.regs[reg] = uint64(r.read.Intn(3))
	}
}

// block goes through statements; it tells whether it came through, or is stuck in a loop that wants more iterations than k.
func (r *run) block(l []prog.Stmt, locs string, k int) bool {
	for _, s := range l {
		through := true
		switch s.Kind {
		case prog.If:
			if r.value(s.A) != 0 {
				through = r.block(s.Then, locs, k)
			} else {
				through = r.block(s.Else, locs, k)
			}
		case prog.While:
			for done := 0; through && r.value(s.A) != 0; done++ {
				through = done < k && r.block(s.Then, locs, k)
			}
		default:
			r.plain(s.Kind, s.Reg, s.Mode, byte(max(0, strings.IndexByte(locs, s.Loc))), s.A, s.B)
		}
		if !through {
			return false
		}
	}
	return true
}

// code goes through instructions, likewise.
func (r *run) code(p unroll.Thread) bool {
	for at := p.Begin; at != -1; {
		x := p.Code[at]
		switch {
		case x.Kind == unroll.Stuck:
			return false
		case x.Kind == unroll.Branch && r.value(x.A) == 0:
			at = x.Else
		case x.Kind == unroll.Branch:
			at = x.Next
		default:
			r.plain(x.Kind, x.Reg, x.Mode, byte(x.Loc), x.A, x.B)
			at = x.Next
		}
	}
	return true
}

// P7.1: whatever is read, a thread's code does what its statements do, with at most k iterations of a loop each time that it is come to.
func TestRuns(t *testing.T) {
	met := map[bool]int{}
	each(t, 8, 10000, func(c chosen, test prog.Test, k int, p unroll.Program) {
		for i, l := range test.Threads {
			for range 3 {
				seed := c.Int63()
				a, b := run{read: rand.New(rand.NewSource(seed))}, run{read: rand.New(rand.NewSource(seed))}
				throughA, throughB := a.block(l, p.Locs, k), b.code(p.Threads[i])
				if throughA != throughB || !reflect.DeepEqual(a.trace, b.trace) || a.regs != b.regs {
					t.Fatalf("k = %d, thread %d: %v %v, not %v %v\n%s", k, i, b.trace, throughB, a.trace, throughA, test.Text())
				}
				met[throughA]++
			}
		}
	})
	if met[false] < 1000 || met[true] < 1000 {
		t.Error(met)
	}
}

// ahead are the places to which Next and Else lead from places.
func ahead(p unroll.Thread, from map[int]bool) map[int]bool {
	to := map[int]bool{}
	for at := range from {
		if !unroll.End(p, at) {
			to[p.Code[at].Next], to[p.Code[at].Else] = true, true
		}
	}
	return to
}

// steps is how many steps, at most, lead from a place to the end, or to Stuck; or more than most, if that is more.
func steps(p unroll.Thread, at, most int) int {
	from := map[int]bool{at: true}
	for count := 0; count <= most; count++ {
		left := map[int]bool{}
		for at := range from {
			if !unroll.End(p, at) && p.Code[at].Kind != unroll.Stuck {
				left[at] = true
			}
		}
		if len(left) == 0 {
			return count
		}
		from = ahead(p, left)
	}
	return most + 1
}

// P7.1, P7.3: from each place all ways come to the end, or to Stuck, in at most as many steps as there are instructions, and no way leaves the code otherwise.
func TestWaysEnd(t *testing.T) {
	longest := 0
	see := func(p unroll.Program, text string) {
		for _, l := range p.Threads {
			if unroll.End(l, l.Begin) != (l.Begin == -1) || (l.Begin == -1) != (len(l.Code) == 0) {
				t.Fatalf("begins at %d of %d\n%s", l.Begin, len(l.Code), text)
			}
			for at, x := range l.Code {
				for _, to := range []int{x.Next, x.Else} {
					if stuck := x.Kind == unroll.Stuck; stuck && to != at || !stuck && (to < -1 || to >= at) {
						t.Fatalf("place %d leads to %d\n%s", at, to, text)
					}
				}
			}
			for at := -3; at < len(l.Code)+3; at++ {
				count := steps(l, at, len(l.Code))
				if count > len(l.Code) || unroll.End(l, at) && count != 0 {
					t.Fatalf("from %d: %d steps, %d instructions\n%s", at, count, len(l.Code), text)
				}
				longest = max(longest, count)
			}
		}
	}
	each(t, 9, 10000, func(_ chosen, test prog.Test, k int, p unroll.Program) { see(p, test.Text()) })
	for _, body := range []string{"", sets(32), "while (1) { }", "while (1) { r0 = 1; if (r0) { while (r1) { } } }", "if (1) { } else { " + sets(31) + "}"} {
		see(unrolled(t, parsed(t, threads(body)), 2), body)
	}
	if longest != 32 {
		t.Errorf("at most %d steps", longest)
	}
}

// P7.1: from where a thread begins, its ways come to all of its code: nothing is put that is not gone on to.
func TestAllCodeIsReached(t *testing.T) {
	each(t, 10, 3000, func(_ chosen, test prog.Test, _ int, p unroll.Program) {
		for _, l := range p.Threads {
			met, from := map[int]bool{}, map[int]bool{l.Begin: true}
			for range len(l.Code) + 1 {
				for at := range from {
					met[at] = true
				}
				from = ahead(l, from)
			}
			delete(met, -1)
			if len(met) != len(l.Code) {
				t.Fatalf("%d of %d come to\n%s", len(met), len(l.Code), test.Text())
			}
		}
	})
}
