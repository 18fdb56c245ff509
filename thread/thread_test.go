package thread_test

import (
	"math"
	"reflect"
	"slices"
	"strconv"
	"strings"
	"testing"

	"troth/api"
	"troth/expr"
	"troth/parse"
	"troth/prog"
	"troth/thread"
	"troth/unroll"
)

const most = math.MaxUint64

// made is the code of a thread's statements, in a test of the locations x, y and z, with loops unrolled so often.
func made(t *testing.T, body string, k int) unroll.Thread {
	t.Helper()
	text := "thread { " + body + " } exists x + y + z;"
	test, at, err := parse.Parse(text)
	if err != api.OK {
		t.Fatalf("%v at %v\n%s", err, at, text)
	}
	p, err := unroll.Unroll(test, k)
	if err != api.OK {
		t.Fatalf("k = %d: %v\n%s", k, err, text)
	}
	return p.Threads[0]
}

// kindNames stands at the numbers of the kinds.
var kindNames = [...]string{"", "set", "load", "store", "swap", "add", "cas", "fence", "branch", "stuck"}

func kindName(kind uint8) string {
	if int(kind) < len(kindNames) {
		return kindNames[kind]
	}
	return "kind " + strconv.Itoa(int(kind))
}

// access is one as a text: kind, location, mode, A and B.
func access(a thread.Access) string {
	return strings.Join([]string{kindName(a.Kind), string(rune('x' + a.Loc)), prog.Mode(a.Mode), strconv.FormatUint(a.A, 10), strconv.FormatUint(a.B, 10)}, " ")
}

// told is where a state is, and its registers that are not 0.
func told(p unroll.Thread, s thread.State) string {
	where := "end"
	a, is := thread.Next(p, s)
	switch {
	case is:
		where = access(a)
	case a != thread.Access{}:
		where = "none, and yet " + access(a)
	case !unroll.End(p, s.At):
		where = kindName(p.Code[s.At].Kind)
	}
	if thread.Ended(p, s) != (where == "end") {
		where += ", and yet ended or not"
	}
	for i, n := range s.R {
		if n != 0 {
			where += " r" + strconv.Itoa(i) + "=" + strconv.FormatUint(n, 10)
		}
	}
	return where
}

// ran tells the states from the beginning on, by what is read one after the other.
func ran(p unroll.Thread, reads ...uint64) string {
	s := thread.Begin(p)
	l := []string{told(p, s)}
	for _, n := range reads {
		s = thread.Done(p, s, n)
		l = append(l, told(p, s))
	}
	return strings.Join(l, " | ")
}

// sets are so many statements, each of one instruction.
func sets(count int) string { return strings.Repeat("r1 = r1 + 1; ", count) }

// P8.1 to P8.3, as the chapter's example shows it.
func TestExample(t *testing.T) {
	p := made(t, "r0 = load(x, acq); r1 = add(y, r0, ar);", 0)
	s := thread.Begin(p)
	if a, is := thread.Next(p, s); !is || a != (thread.Access{Kind: prog.Load, Mode: api.Acq}) {
		t.Error(a, is)
	}
	s = thread.Done(p, s, 7)
	a, is := thread.Next(p, s)
	if !is || a != (thread.Access{Kind: prog.Add, Mode: api.Ar, Loc: 1, A: 7}) {
		t.Error(a, is)
	}
	if mode, is := a.Reads(); !is || mode != api.Acq {
		t.Error(mode, is)
	}
	for _, read := range []uint64{0, 7, 100, most - 7} {
		if n, mode, is := a.Writes(read); !is || mode != api.Rel || n != read+7 {
			t.Error(read, n, mode, is)
		}
	}
	if n, _, _ := a.Writes(most - 3); n != 3 {
		t.Error(n)
	}
}

// P8.1: where a thread begins, run on: to an access, to the end, or to Stuck.
func TestBegin(t *testing.T) {
	for _, c := range []struct {
		body string
		k    int
		want string
	}{
		// no code, an access at once
		{"", 0, "end"},
		{"", 8, "end"},
		{"r5 = load(x, pln);", 0, "load x pln 0 0"},
		{"store(z, 3, rel);", 0, "store z rel 3 0"},
		{"r5 = swap(y, 3, ar);", 0, "swap y ar 3 0"},
		{"r5 = add(y, 3, rlx);", 0, "add y rlx 3 0"},
		{"r5 = cas(y, 3, 4, acq);", 0, "cas y acq 3 4"},
		{"fence(sc);", 0, "fence x sc 0 0"},
		// Sets: one, several, registers read ahead of where they are set, and behind
		{"r0 = 1;", 0, "end r0=1"},
		{"r7 = 1;", 0, "end r7=1"},
		{"r3 = 0;", 0, "end"},
		{"r0 = r0;", 0, "end"},
		{"r0 = 1; r0 = 2;", 0, "end r0=2"},
		{"r0 = r1; r1 = 5; r2 = r1;", 0, "end r1=5 r2=5"},
		{"r0 = 2; r1 = r0 + 1; r0 = r1 * r1; r7 = r0 - r1 - r1;", 0, "end r0=9 r1=3 r7=3"},
		{"r0 = 6; r0 = r0 / 4 + r0 % 4 * 10; r1 = !r0; r2 = !r1;", 0, "end r0=21 r2=1"},
		{"r0 = 5; r0 = 0;", 0, "end"},
		{sets(32), 0, "end r1=32"},
		{sets(31) + "fence(rel);", 0, "fence x rel 0 0 r1=31"},
		{"r0 = 1; r1 = 2; r2 = 3; r3 = 4; r4 = 5; r5 = 6; r6 = 7; r7 = 8; store(y, r0 * r1 * r2 * r3 * r4 * r5 * r6 * r7, pln);", 0,
			"store y pln 40320 0 r0=1 r1=2 r2=3 r3=4 r4=5 r5=6 r6=7 r7=8"},
		// numbers that go round
		{"r0 = 0 - 1;", 0, "end r0=18446744073709551615"},
		{"r0 = 18446744073709551615; r1 = r0 + 2; r2 = r0 * r0; r3 = -r0;", 0, "end r0=18446744073709551615 r1=1 r2=1 r3=1"},
		{"r0 = 18446744073709551615; store(x, r0 + 1, rlx);", 0, "store x rlx 0 0 r0=18446744073709551615"},
		{"if (18446744073709551615 + 1) { r0 = 1; } else { r0 = 2; }", 0, "end r0=2"},
		{"if (0 - 1) { r0 = 1; } else { r0 = 2; }", 0, "end r0=1"},
		{"if (9223372036854775808) { r0 = 1; } else { r0 = 2; }", 0, "end r0=1"},
		{"if (4294967296) { r0 = 1; } else { r0 = 2; }", 0, "end r0=1"},
		// Branches by both ways: to the end, to accesses, to Sets, one behind the other, in one another
		{"if (0) { }", 0, "end"},
		{"if (1) { }", 0, "end"},
		{"if (r0) { fence(sc); }", 0, "end"},
		{"if (!r0) { fence(sc); }", 0, "fence x sc 0 0"},
		{"if (r0) { fence(sc); } else { fence(ar); }", 0, "fence x ar 0 0"},
		{"if (7) { fence(sc); } else { fence(ar); }", 0, "fence x sc 0 0"},
		{"if (r0) { fence(sc); } else { } r1 = load(z, acq);", 0, "load z acq 0 0"},
		{"if (1) { r0 = 3; } else { r0 = 4; } if (r0 == 4) { r1 = 5; } else { r1 = 6; } if (r1 == 6) { store(y, r0 - r1, rlx); }", 0,
			"store y rlx 18446744073709551613 0 r0=3 r1=6"},
		{"if (0) { r0 = 3; } else { r0 = 4; } if (r0 == 4) { r1 = 5; } else { r1 = 6; } if (r1 == 6) { store(y, r0 - r1, rlx); }", 0, "end r0=4 r1=5"},
		{"if (1) { if (0) { r0 = 1; } else { r0 = 2; if (r0) { r0 = 3; r1 = swap(x, r0, rel); } } }", 0, "swap x rel 3 0 r0=3"},
		{"if (r0) { } if (r1) { } if (1) { } r2 = cas(z, r2, r2 + 1, ar);", 0, "cas z ar 0 1"},
		{"r0 = 1; if (r0) { r0 = 0; } else { r0 = 1; } if (r0) { fence(acq); } else { fence(rel); }", 0, "fence x rel 0 0"},
		// Whiles: not gone into, gone through, up to Stuck
		{"while (r0) { r1 = 1; }", 0, "end"},
		{"while (r0) { r1 = 1; } r2 = 1;", 3, "end r2=1"},
		{"while (1) { }", 0, "stuck"},
		{"while (1) { }", 8, "stuck"},
		{"r0 = 1; while (r0) { r1 = 1; }", 0, "stuck r0=1"},
		{"r0 = 1; while (r0) { r1 = r1 + 1; } fence(sc);", 3, "stuck r0=1 r1=3"},
		{"r0 = 2; while (r0) { r0 = r0 - 1; }", 0, "stuck r0=2"},
		{"r0 = 2; while (r0) { r0 = r0 - 1; }", 1, "stuck r0=1"},
		{"r0 = 2; while (r0) { r0 = r0 - 1; } r1 = 5;", 2, "end r1=5"},
		{"r0 = 2; while (r0) { r0 = r0 - 1; } r1 = load(y, pln);", 3, "load y pln 0 0"},
		{"while (r0 < 3) { r0 = r0 + 1; if (r0 == 2) { store(x, r0, rlx); } } fence(sc);", 3, "store x rlx 2 0 r0=2"},
		{"while (r0 < 2) { r0 = r0 + 1; r1 = 0; while (r1 < 2) { r1 = r1 + 1; r2 = r2 + 1; } }", 2, "end r0=2 r1=2 r2=4"},
		{"while (r0 < 2) { r0 = r0 + 1; r1 = 0; while (r1 < 3) { r1 = r1 + 1; r2 = r2 + 1; } }", 2, "stuck r0=1 r1=2 r2=2"},
	} {
		if got := ran(made(t, c.body, c.k)); got != c.want {
			t.Errorf("%s, k = %d:\n%s\nnot\n%s", c.body, c.k, got, c.want)
		}
	}
}

// P8.1, P8.2: states one behind the other, by what is read.
func TestDone(t *testing.T) {
	for _, c := range []struct {
		body  string
		k     int
		reads []uint64
		want  string
	}{
		// what reads gets it, into its own register alone; what does not read gets nothing
		{"r3 = load(x, rlx);", 0, []uint64{most}, "load x rlx 0 0 | end r3=18446744073709551615"},
		{"r0 = load(x, rlx); r7 = load(y, acq); r0 = load(z, pln);", 0, []uint64{5, 6, 0}, "load x rlx 0 0 | load y acq 0 0 r0=5 | load z pln 0 0 r0=5 r7=6 | end r7=6"},
		{"r0 = 8; r1 = 9; store(x, r1, rel);", 0, []uint64{5}, "store x rel 9 0 r0=8 r1=9 | end r0=8 r1=9"},
		{"r0 = 8; fence(acq); fence(sc);", 0, []uint64{5, 6}, "fence x acq 0 0 r0=8 | fence x sc 0 0 r0=8 | end r0=8"},
		{"r2 = swap(x, 4, rel);", 0, []uint64{5}, "swap x rel 4 0 | end r2=5"},
		{"r2 = add(x, 4, acq);", 0, []uint64{5}, "add x acq 4 0 | end r2=5"},
		{"r2 = cas(x, 4, 6, ar);", 0, []uint64{4}, "cas x ar 4 6 | end r2=4"}, // what was read, not what was written
		{"r2 = cas(x, 4, 6, ar);", 0, []uint64{5}, "cas x ar 4 6 | end r2=5"},
		{"r4 = 7; r4 = cas(x, r4, r4 + r4, rlx);", 0, []uint64{7}, "cas x rlx 7 14 r4=7 | end r4=7"},
		{"r4 = 7; r4 = cas(x, r4, r4 + r4, rlx);", 0, []uint64{0}, "cas x rlx 7 14 r4=7 | end"},
		// what was read counts at once, in what the thread runs on through, and at the next access
		{"r0 = load(x, pln); r0 = r0 + r0; store(y, r0 - 1, pln);", 0, []uint64{21, 0}, "load x pln 0 0 | store y pln 41 0 r0=42 | end r0=42"},
		{"r0 = load(x, pln); r0 = r0 + r0; store(y, r0 - 1, pln);", 0, []uint64{1 << 63, 0}, "load x pln 0 0 | store y pln 18446744073709551615 0 | end"},
		{"r0 = load(x, pln); if (r0) { store(y, r0, rel); } else { fence(rel); } r1 = 3;", 0, []uint64{2, 9}, "load x pln 0 0 | store y rel 2 0 r0=2 | end r0=2 r1=3"},
		{"r0 = load(x, pln); if (r0) { store(y, r0, rel); } else { fence(rel); } r1 = 3;", 0, []uint64{0, 9}, "load x pln 0 0 | fence x rel 0 0 | end r1=3"},
		{"r0 = add(x, 1, rlx); if (r0 == 0) { } else { while (1) { } }", 3, []uint64{0}, "add x rlx 1 0 | end"},
		{"r0 = add(x, 1, rlx); if (r0 == 0) { } else { while (1) { } }", 3, []uint64{1}, "add x rlx 1 0 | stuck r0=1"},
		{"r0 = cas(x, 0, 1, acq); if (r0 == 0) { r1 = load(y, pln); store(y, r1 + 1, pln); store(x, 0, rel); }", 0, []uint64{0, 41, 0, 0},
			"cas x acq 0 1 | load y pln 0 0 | store y pln 42 0 r1=41 | store x rel 0 0 r1=41 | end r1=41"},
		{"r0 = cas(x, 0, 1, acq); if (r0 == 0) { r1 = load(y, pln); store(y, r1 + 1, pln); store(x, 0, rel); }", 0, []uint64{3}, "cas x acq 0 1 | end r0=3"},
		// loops that wait
		{"while (!r0) { r0 = load(x, acq); } store(y, r0, rlx);", 2, []uint64{0, 6, 0}, "load x acq 0 0 | load x acq 0 0 | store y rlx 6 0 r0=6 | end r0=6"},
		{"while (!r0) { r0 = load(x, acq); } store(y, r0, rlx);", 2, []uint64{6, 0}, "load x acq 0 0 | store y rlx 6 0 r0=6 | end r0=6"},
		{"while (!r0) { r0 = load(x, acq); } store(y, r0, rlx);", 2, []uint64{0, 0}, "load x acq 0 0 | load x acq 0 0 | stuck"},
		{"while (!r0) { r0 = load(x, acq); } store(y, r0, rlx);", 0, nil, "stuck"},
		// behind the end, and behind Stuck, nothing is done any more
		{"", 0, []uint64{4, 5}, "end | end | end"},
		{"r0 = 1;", 0, []uint64{4, 5}, "end r0=1 | end r0=1 | end r0=1"},
		{"store(x, 1, rlx);", 0, []uint64{0, 5, 6}, "store x rlx 1 0 | end | end | end"},
		{"r0 = load(x, rlx); while (r0) { }", 1, []uint64{7, 5, 6}, "load x rlx 0 0 | stuck r0=7 | stuck r0=7 | stuck r0=7"},
		{"while (1) { }", 1, []uint64{7}, "stuck | stuck"},
	} {
		if got := ran(made(t, c.body, c.k), c.reads...); got != c.want {
			t.Errorf("%s, k = %d, by %v:\n%s\nnot\n%s", c.body, c.k, c.reads, got, c.want)
		}
	}
}

func num(n uint64) *expr.Expr { return &expr.Expr{Kind: expr.Num, N: n} }
func reg(i uint8) *expr.Expr  { return &expr.Expr{Kind: expr.Reg, I: i} }

func sum(a, b *expr.Expr) *expr.Expr {
	return &expr.Expr{Kind: expr.Two, Op: api.Add, L: a, R: b}
}

// mixed is code of each kind, with what an access of it tells; behind each instruction stands the one below, and Else, which but a Branch none has, leads nowhere.
func mixed() (unroll.Thread, []thread.Access) {
	l := []unroll.Instr{
		{Kind: unroll.Stuck},
		{Kind: prog.Set, Reg: 1, A: num(9)},
		{Kind: prog.Load, Reg: 2, Mode: api.Acq, Loc: 3},
		{Kind: prog.Store, Mode: api.Rel, Loc: 2, A: sum(reg(1), reg(7))},
		{Kind: prog.Swap, Reg: 3, Mode: api.Ar, Loc: 1, A: reg(4)},
		{Kind: prog.Add, Reg: 4, Mode: api.Rlx, A: sum(reg(6), num(most))},
		{Kind: prog.Cas, Reg: 5, Mode: api.Rel, Loc: 3, A: reg(5), B: sum(reg(5), reg(0))},
		{Kind: prog.Fence, Mode: api.Sc},
		{Kind: unroll.Branch, A: num(1)},
	}
	for at := range l {
		l[at].Next, l[at].Else = at-1, -1
	}
	l[0].Next, l[0].Else = 0, 0
	return unroll.Thread{Code: l, Begin: 8}, []thread.Access{
		2: {Kind: prog.Load, Mode: api.Acq, Loc: 3},
		3: {Kind: prog.Store, Mode: api.Rel, Loc: 2, A: 1001 + 1007},
		4: {Kind: prog.Swap, Mode: api.Ar, Loc: 1, A: 1004},
		5: {Kind: prog.Add, Mode: api.Rlx, A: 1005},
		6: {Kind: prog.Cas, Mode: api.Rel, Loc: 3, A: 1005, B: 2005},
		7: {Kind: prog.Fence, Mode: api.Sc},
		8: {},
	}
}

// full is a state whose registers are all others.
func full(at int) thread.State {
	s := thread.State{At: at}
	for i := range s.R {
		s.R[i] = 1000 + uint64(i)
	}
	return s
}

// P8.1, P8.2: Next, Done and Ended at each place, also at those where no state comes to stand: a Set, a Branch, places that are none.
func TestEachPlace(t *testing.T) {
	p, want := mixed()
	reading := map[int]uint8{2: 2, 4: 3, 5: 4, 6: 5}
	places := []int{math.MinInt, -1 << 32, -256, -2, -1, len(p.Code), len(p.Code) + 1, 256, 1 << 32, 1<<32 + 3, math.MaxInt}
	for at := range p.Code {
		places = append(places, at)
	}
	for _, at := range places {
		s, inside := full(at), at >= 0 && at < len(p.Code)
		next, access := thread.Access{}, at >= 2 && at <= 7
		if access {
			next = want[at]
		}
		if a, is := thread.Next(p, s); a != next || is != access {
			t.Errorf("at %d: %v, %v, not %v, %v", at, a, is, next, access)
		}
		if thread.Ended(p, s) == inside {
			t.Errorf("at %d: ended is %v", at, !inside)
		}
		for _, read := range []uint64{0, 1, 1005, most} { // 1005 is what the Cas wants
			behind := s
			if access {
				behind.At = at - 1
				if i, reads := reading[at]; reads {
					behind.R[i] = read
				}
				if at == 2 { // a Set is behind it, that is run on through to Stuck
					behind.At, behind.R[1] = 0, 9
				}
			}
			if got := thread.Done(p, s, read); got != behind {
				t.Errorf("at %d, %d read: %v, not %v", at, read, got, behind)
			}
		}
	}
}

// P8.1: Begin runs on from wherever the thread begins, and stands still at each access; at Stuck, too.
func TestBeginAtEachPlace(t *testing.T) {
	p, _ := mixed()
	for begin, want := range map[int]int{-1: -1, 0: 0, 1: 0, 2: 2, 3: 3, 4: 4, 5: 5, 6: 6, 7: 7, 8: 7, 9: 9} {
		p.Begin = begin
		s := thread.State{At: want}
		if begin == 1 {
			s.R[1] = 9
		}
		if got := thread.Begin(p); got != s {
			t.Errorf("from %d: %v, not %v", begin, got, s)
		}
	}
}

// P8.1: a Branch behind an access, and behind Sets, leads on by Next, if what it asks is not 0, else by Else.
func TestBranches(t *testing.T) {
	code := []unroll.Instr{
		{Kind: prog.Fence, Mode: api.Acq, Next: -1, Else: -1},
		{Kind: prog.Fence, Mode: api.Rel, Next: -1, Else: -1},
		{Kind: unroll.Branch, A: reg(6), Next: 0, Else: 1},
		{Kind: unroll.Branch, A: reg(6), Next: 2, Else: -1},
		{Kind: unroll.Branch, A: reg(5), Next: 3, Else: 2},
		{Kind: prog.Load, Reg: 6, Mode: api.Pln, Next: 4, Else: 4},
	}
	p := unroll.Thread{Code: code, Begin: 5}
	for _, c := range []struct {
		r5, read uint64
		at       int
	}{{0, 0, 1}, {0, 1, 0}, {1, 0, -1}, {1, 1, 0}, {most, most, 0}, {2, 1 << 63, 0}, {1 << 32, 1 << 32, 0}, {1 << 8, 0, -1}, {0, 1 << 8, 0}} {
		s := thread.Begin(p)
		if s.At != 5 {
			t.Fatal(s)
		}
		s.R[5] = c.r5
		s = thread.Done(p, s, c.read)
		if want := (thread.State{At: c.at, R: [api.Registers]uint64{5: c.r5, 6: c.read}}); s != want {
			t.Errorf("%v: %v, not %v", c, s, want)
		}
	}
}

// kinds of accesses, and whether they are updates.
func accessKinds() map[uint8]bool {
	return map[uint8]bool{prog.Load: false, prog.Store: false, prog.Swap: true, prog.Add: true, prog.Cas: true, prog.Fence: false}
}

// P8.3: for each kind and mode, those that are none too, what an access does.
func TestAccesses(t *testing.T) {
	acq := map[uint8]uint8{api.Rlx: api.Rlx, api.Acq: api.Acq, api.Rel: api.Rlx, api.Ar: api.Acq}
	rel := map[uint8]uint8{api.Rlx: api.Rlx, api.Acq: api.Rlx, api.Rel: api.Rel, api.Ar: api.Rel}
	for kind := range 256 {
		for mode := range 256 {
			for _, loc := range []int{0, 3} {
				a := thread.Access{Kind: uint8(kind), Mode: uint8(mode), Loc: loc, A: 5, B: 6}
				half := func(of map[uint8]uint8) uint8 { return max(of[a.Mode], api.Rlx) } // of an update no other mode than these is strong
				update := accessKinds()[a.Kind]
				if a.Update() != update {
					t.Fatalf("%v: an update is %v", a, a.Update())
				}
				by, reads := uint8(0), update
				if update {
					by = half(acq)
				} else if a.Kind == prog.Load {
					by, reads = a.Mode, true
				}
				if m, is := a.Reads(); m != by || is != reads {
					t.Fatalf("%v: reads %d, %v, not %d, %v", a, m, is, by, reads)
				}
				for _, read := range []uint64{0, 5, 6, most - 4, most} {
					n, by, writes := uint64(0), uint8(0), update || a.Kind == prog.Store
					switch {
					case a.Kind == prog.Cas && read != 5:
						writes = false
					case a.Kind == prog.Cas:
						n, by = 6, half(rel)
					case a.Kind == prog.Add:
						n, by = read+5, half(rel)
					case a.Kind == prog.Swap:
						n, by = 5, half(rel)
					case a.Kind == prog.Store:
						n, by = 5, a.Mode
					}
					if num, m, is := a.Writes(read); num != n || m != by || is != writes {
						t.Fatalf("%v, %d read: writes %d, %d, %v, not %d, %d, %v", a, read, num, m, is, n, by, writes)
					}
				}
			}
		}
	}
}

// P8.3: numbers, at the edges: an Add goes round, a Cas wants just its own number, B may be A.
func TestWritten(t *testing.T) {
	for _, c := range []struct {
		a      thread.Access
		read   uint64
		n      uint64
		writes bool
	}{
		{thread.Access{Kind: prog.Add, A: 1}, most, 0, true},
		{thread.Access{Kind: prog.Add, A: most}, most, most - 1, true},
		{thread.Access{Kind: prog.Add, A: 1 << 63}, 1 << 63, 0, true},
		{thread.Access{Kind: prog.Add, A: 0, B: 9}, 4, 4, true},
		{thread.Access{Kind: prog.Add, A: most}, 1, 0, true},
		{thread.Access{Kind: prog.Cas, A: 0, B: 0}, 0, 0, true},
		{thread.Access{Kind: prog.Cas, A: 0, B: most}, 0, most, true},
		{thread.Access{Kind: prog.Cas, A: most, B: 1}, most, 1, true},
		{thread.Access{Kind: prog.Cas, A: most, B: 1}, math.MaxUint32, 0, false},
		{thread.Access{Kind: prog.Cas, A: 1 << 32, B: 1}, 0, 0, false},
		{thread.Access{Kind: prog.Cas, A: 4, B: 5}, 5, 0, false},
		{thread.Access{Kind: prog.Swap, A: most, B: 3}, 7, most, true},
		{thread.Access{Kind: prog.Swap, A: 0, B: 3}, 7, 0, true},
		{thread.Access{Kind: prog.Store, A: 0, B: 3}, 7, 0, true},
		{thread.Access{Kind: prog.Store, A: most, B: 3}, most, most, true},
		{thread.Access{Kind: prog.Load, A: 3, B: 3}, 3, 0, false},
		{thread.Access{Kind: prog.Fence, A: 3, B: 3}, 3, 0, false},
	} {
		if n, _, writes := c.a.Writes(c.read); n != c.n || writes != c.writes {
			t.Errorf("%v, %d read: %d, %v, not %d, %v", c.a, c.read, n, writes, c.n, c.writes)
		}
	}
}

// writes tells of each place the most writes, and a u, if there is an update on a way.
func writes(p unroll.Thread) string {
	var l []string
	for at := range p.Code {
		s := strconv.Itoa(thread.Most(p, at))
		if thread.Updates(p, at) {
			s += "u"
		}
		l = append(l, s)
	}
	return strings.Join(l, " ")
}

// P8.4: from each place, lowest first, worked out by hand.
func TestMost(t *testing.T) {
	for _, c := range []struct {
		body string
		k    int
		want string
	}{
		{"", 0, ""},
		// each kind by itself
		{"r0 = 1;", 0, "0"},
		{"r0 = load(x, acq);", 0, "0"},
		{"fence(sc);", 0, "0"},
		{"store(x, 1, rel);", 0, "1"},
		{"r0 = swap(x, 1, rlx);", 0, "1u"},
		{"r0 = add(x, 1, rlx);", 0, "1u"},
		{"r0 = cas(x, 1, 2, rlx);", 0, "1u"},
		{"r0 = cas(x, 1, 1, rlx);", 0, "1u"},
		// one behind the other
		{"r0 = add(x, 1, ar); r0 = load(x, rlx); store(y, r0, rlx); fence(rel); store(x, 1, pln); r1 = 0;", 0, "0 1 1 2 2 3u"},
		{"store(x, 1, rlx); r0 = swap(x, 2, rlx); store(x, 3, rlx);", 0, "1 2u 3u"},
		{strings.Repeat("store(x, 1, rlx); ", 6), 0, "1 2 3 4 5 6"},
		{strings.Repeat("r0 = cas(x, 0, 1, rlx); ", 4), 0, "1u 2u 3u 4u"},
		// Branches: more by Next, more by Else, none by one, updates by one of them
		{"if (r0) { }", 0, "0"},
		{"if (r0) { store(x, 1, rlx); }", 0, "1 1"},
		{"if (r0) { } else { store(x, 1, rlx); }", 0, "1 1"},
		{"if (0) { store(x, 1, rlx); store(x, 2, rlx); } else { store(x, 3, rlx); }", 0, "1 2 1 2"},
		{"if (1) { store(x, 1, rlx); } else { store(x, 2, rlx); store(x, 3, rlx); }", 0, "1 1 2 2"},
		{"if (r0) { r1 = swap(x, 1, rlx); } else { store(x, 2, rlx); store(x, 3, rlx); }", 0, "1u 1 2 2u"},
		{"if (r0) { store(x, 2, rlx); store(x, 3, rlx); } else { r1 = add(x, 1, rlx); }", 0, "1 2 1u 2u"},
		{"if (r0) { store(x, 2, rlx); } r1 = load(x, rlx); if (r1) { } else { fence(sc); }", 0, "0 0 0 1 1"},
		{"if (r0) { store(x, 1, rlx); } if (r1) { } else { r2 = swap(x, 1, rlx); } store(y, 1, rlx);", 0, "1 2u 2u 3u 3u"},
		{"store(x, 1, rlx); if (r0) { if (r1) { store(x, 1, rlx); } else { store(x, 1, rlx); store(x, 1, rlx); } store(y, 1, rlx); } fence(sc);", 0, "0 1 2 2 3 3 3 4"},
		// Whiles: up to Stuck, or on
		{"while (r0) { }", 0, "0 0"},
		{"while (r0) { store(x, 1, rlx); }", 0, "0 0"},
		{"while (r0) { store(x, 1, rlx); }", 2, "0 0 1 1 2 2"},
		{"while (r0) { store(x, 1, rlx); } r1 = swap(y, 1, rlx);", 2, "1u 0 1u 2u 2u 3u 3u"},
		{"while (1) { } r1 = swap(y, 1, rlx); store(x, 1, rlx);", 0, "1 2u 0 2u"},
		{"while (r0) { r1 = add(x, 1, rlx); if (r1) { store(y, 1, rlx); } }", 2, "0 0 1 1 2u 2u 3u 3u 4u 4u"},
	} {
		if got := writes(made(t, c.body, c.k)); got != c.want {
			t.Errorf("%s, k = %d: %s, not %s", c.body, c.k, got, c.want)
		}
	}
}

// P8.4: of each kind, by where it leads on; of Stuck, whatever stands below it.
func TestMostOfEachKind(t *testing.T) {
	p, _ := mixed()
	if got, want := writes(p), "0 0 0 1 2u 3u 4u 4u 4u"; got != want {
		t.Errorf("%s, not %s", got, want)
	}
	for at, want := range map[int]string{
		1: "0 0 0 1 2u 3u 4u 4u 4u", 3: "0 0 0 0 1u 2u 3u 3u 3u", 5: "0 0 0 1 2u 0 1u 1u 1u", 7: "0 0 0 1 2u 3u 4u 0 0", 8: "0 0 0 1 2u 3u 4u 4u 0",
	} {
		p, _ := mixed()
		p.Code[at].Kind = unroll.Stuck
		if got := writes(p); got != want {
			t.Errorf("Stuck at %d: %s, not %s", at, got, want)
		}
	}
}

// P8.4: of places that are none, whatever code there is.
func TestMostOfNoPlace(t *testing.T) {
	for count := range 33 {
		p := made(t, strings.Repeat("r0 = swap(x, 1, ar); ", count), 0)
		p.Code = append(p.Code, unroll.Instr{Kind: prog.Swap, Next: -1, Else: -1})[:count] // room behind a code's end is none of it
		for _, at := range []int{math.MinInt, -1 << 32, -256, -2, -1, count, count + 1, 256, 1 << 32, math.MaxInt} {
			if n, is := thread.Most(p, at), thread.Updates(p, at); n != 0 || is {
				t.Errorf("%d instructions, from %d: %d, %v", count, at, n, is)
			}
		}
		if count > 0 && (thread.Most(p, count-1) != count || !thread.Updates(p, count-1)) {
			t.Errorf("%d instructions: %d", count, thread.Most(p, count-1))
		}
	}
	if thread.Most(unroll.Thread{}, 0) != 0 || thread.Updates(unroll.Thread{}, 0) {
		t.Error("of no code")
	}
}

// P8.4, R1: ways may be twice as many with each Branch, and yet there is soon an answer.
func TestMostOfManyWays(t *testing.T) {
	for body, want := range map[string]int{
		strings.Repeat("if (r0) { } ", 32):                                                      0,
		strings.Repeat("if (r0) { } ", 31) + "store(x, 1, rlx);":                                1,
		strings.Repeat("if (r0) { } else { r1 = add(x, 1, rlx); } ", 16):                        16,
		strings.Repeat("if (r0) { store(x, 1, rlx); } else { store(y, 1, rlx); } ", 10):         10,
		strings.Repeat("if (r0) { store(x, 1, rlx); } else { fence(sc); fence(sc); } ", 8):      8,
		"r0 = swap(x, 1, rlx);" + strings.Repeat("if (r0) { } else { } ", 30) + "fence(sc);":    1,
		strings.Repeat("while (r0) { } ", 15) + "store(x, 1, rlx); store(x, 1, rlx);":           2,
		strings.Repeat("store(x, 1, rlx); ", 32):                                                32,
		strings.Repeat("if (r0) { store(x, 1, rlx); store(y, 1, rlx); store(z, 1, rlx); } ", 8): 24,
	} {
		p := made(t, body, 0)
		if got := thread.Most(p, p.Begin); got != want || thread.Updates(p, p.Begin) != (strings.Contains(body, "add") || strings.Contains(body, "swap")) {
			t.Errorf("%s: %d, not %d", body, got, want)
		}
	}
}

// R2, R3: what is handed in stays as it is, and the answer is the same each time.
func TestNothingIsKept(t *testing.T) {
	body := "r2 = 5; r0 = load(x, acq); while (r0) { r0 = cas(y, r0, r2, ar); } if (r2) { store(z, r2, rel); } fence(sc);"
	p, fresh := made(t, body, 2), made(t, body, 2)
	extra := unroll.Instr{Kind: prog.Swap, Reg: 4}
	p.Code = append(slices.Clone(p.Code), extra)[:len(p.Code)]
	want := "load x acq 0 0 r2=5 | cas y ar 1 5 r0=1 r2=5 | cas y ar 2 5 r0=2 r2=5 | store z rel 5 0 r2=5 | fence x sc 0 0 r2=5 | end r2=5"
	first, counts := thread.Begin(p), writes(p)
	for range 3 {
		if got := ran(p, 1, 2, 0, 8, 9); got != want || writes(p) != counts {
			t.Errorf("%s\nnot\n%s", got, want)
		}
		again := thread.Done(p, first, 4)
		again.R[0], again.At = 77, -1
		if first != thread.Begin(p) {
			t.Error("a state was changed")
		}
	}
	if !reflect.DeepEqual(p, fresh) || !reflect.DeepEqual(p.Code[:len(p.Code)+1][len(p.Code)], extra) {
		t.Error("the code was changed")
	}
}

// R1: code that is none of the program's own is asked of no call; yet none panics, and each one ends.
func TestWrongInputs(t *testing.T) {
	endless := &expr.Expr{Kind: expr.One, Op: api.Not}
	endless.L = endless
	exprs := []*expr.Expr{nil, endless, {Kind: 77}, {Kind: expr.Reg, I: 200}, {Kind: expr.Of, T: 1, I: 2}, {Kind: expr.Of, T: 200, I: 200}, {Kind: expr.Loc, X: 'x'}, sum(reg(8), nil)}
	for _, e := range exprs {
		for kind := range 256 {
			for _, to := range []int{math.MinInt, -2, -1, 0, 1, 2, 3, 77, math.MaxInt} {
				x := unroll.Instr{Kind: uint8(kind), Reg: 200, Mode: 200, Loc: -7, A: e, B: e, Next: to, Else: to}
				y := unroll.Instr{Kind: uint8(kind), Reg: 8, Mode: api.Ar, Loc: 77, A: num(1), B: num(1), Next: 1 - to, Else: to}
				p := unroll.Thread{Code: []unroll.Instr{x, y, x}, Begin: to}
				for _, at := range []int{math.MinInt, -1, 0, 1, 2, 3, math.MaxInt} {
					s := full(at)
					if a, _ := thread.Next(p, s); at != 1 && (a.A != 0 || a.B != 0) {
						t.Errorf("kind %d: an expression that a thread does not have comes to %v", kind, a)
					}
					if got := thread.Done(p, s, 5); got.R != s.R {
						t.Errorf("kind %d: a register that there is not: %v", kind, got)
					}
					if thread.Ended(p, s) != (at < 0 || at > 2) {
						t.Errorf("kind %d at %d", kind, at)
					}
					if n := thread.Most(p, at); n < 0 || n > 3 || thread.Updates(p, at) && n == 0 {
						t.Errorf("kind %d from %d: %d", kind, at, n)
					}
				}
				if got := thread.Begin(p); got.R != (thread.State{}).R {
					t.Errorf("kind %d: %v", kind, got)
				}
			}
		}
	}
}
