package thread_test

import (
	"math/rand"
	"strconv"
	"strings"
	"testing"

	"troth/api"
	"troth/expr"
	"troth/parse"
	"troth/prog"
	"troth/thread"
	"troth/unroll"
)

// chosen makes threads by chance.
type chosen struct{ *rand.Rand }

func (c chosen) of(l ...string) string { return l[c.Intn(len(l))] }

func (c chosen) reg() string { return "r" + strconv.Itoa(c.Intn(api.Registers)) }

func (c chosen) expr() string {
	r := func() string { return "r" + strconv.Itoa(c.Intn(3)) }
	return c.of(r(), r(), "1", "18446744073709551615", r()+" == "+r(), "!"+r(), "-"+r(), r()+" + 1", r()+" * 3 - "+c.reg(), r()+" & 1", "1 - "+c.reg())
}

// mode is one that the kind may have.
func (c chosen) mode(kind uint8) string {
	l := prog.Modes(kind)
	return prog.Mode(l[c.Intn(len(l))])
}

func (c chosen) body(room int) string {
	var b strings.Builder
	for range c.Intn(5) {
		b.WriteString(c.stmt(room) + " ")
	}
	return b.String()
}

// stmt is one in which so many blocks may stand in one another.
func (c chosen) stmt(room int) string {
	kind := prog.Set + uint8(c.Intn(int(prog.While)))
	if room == 0 {
		kind = prog.Set + uint8(c.Intn(int(prog.Fence)))
	}
	at := c.of("x", "y", "z") + ", "
	switch kind {
	case prog.Set:
		return c.reg() + " = " + c.expr() + ";"
	case prog.Store:
		return "store(" + at + c.expr() + ", " + c.mode(kind) + ");"
	case prog.Load:
		return c.reg() + " = load(" + at + c.mode(kind) + ");"
	case prog.Swap, prog.Add:
		return c.reg() + " = " + kindNames[kind] + "(" + at + c.expr() + ", " + c.mode(kind) + ");"
	case prog.Cas:
		return c.reg() + " = cas(" + at + c.expr() + ", " + c.expr() + ", " + c.mode(kind) + ");"
	case prog.Fence:
		return "fence(" + c.mode(kind) + ");"
	case prog.While:
		return "while (" + c.expr() + ") { " + c.body(room-1) + "}"
	}
	return "if (" + c.expr() + ") { " + c.body(room-1) + "}" + c.of("", " else { "+c.body(room-1)+"}")
}

// each tells so many threads by chance, as statements and as code, those that are not too long.
func each(t *testing.T, seed int64, count int, do func(c chosen, l []prog.Stmt, k int, p unroll.Thread)) {
	t.Helper()
	c, made := chosen{rand.New(rand.NewSource(seed))}, 0
	for range count {
		text, k := "thread { "+c.body(c.Intn(4))+"} exists x + y + z;", c.Intn(4)
		test, at, err := parse.Parse(text)
		if err != api.OK {
			t.Fatalf("%v at %v\n%s", err, at, text)
		}
		if p, err := unroll.Unroll(test, k); err == api.OK {
			do(c, test.Threads[0], k, p.Threads[0])
			made++
		}
	}
	if made < count/2 {
		t.Errorf("only %d of %d", made, count)
	}
}

// run is what statements do, gone through as they stand: each access is told with the registers ahead of it.
type run struct {
	regs  [api.Registers]uint64
	read  func() uint64
	trace []string
}

func (r *run) value(e *expr.Expr) uint64 {
	if e == nil {
		return 0
	}
	return e.Eval(func(x expr.Expr) uint64 { return r.regs[x.I] })
}

func (r *run) see(where string) {
	for i, n := range r.regs {
		if n != 0 {
			where += " r" + strconv.Itoa(i) + "=" + strconv.FormatUint(n, 10)
		}
	}
	r.trace = append(r.trace, where)
}

// access does what its kind does; what is read is asked for by each one, also where it plays no part.
func (r *run) access(s prog.Stmt) {
	where := []string{kindNames[s.Kind], string(rune(max(s.Loc, 'x'))), prog.Mode(s.Mode), strconv.FormatUint(r.value(s.A), 10), strconv.FormatUint(r.value(s.B), 10)}
	r.see(strings.Join(where, " "))
	n := r.read()
	switch s.Kind {
	case prog.Load, prog.Swap, prog.Add, prog.Cas:
		r.regs[s.Reg] = n
	}
}

// block tells whether it came through, or is stuck in a loop that wants more iterations than k.
func (r *run) block(l []prog.Stmt, k int) bool {
	for _, s := range l {
		through := true
		switch s.Kind {
		case prog.Set:
			r.regs[s.Reg] = r.value(s.A)
		case prog.If:
			if r.value(s.A) != 0 {
				through = r.block(s.Then, k)
			} else {
				through = r.block(s.Else, k)
			}
		case prog.While:
			for done := 0; through && r.value(s.A) != 0; done++ {
				through = done < k && r.block(s.Then, k)
			}
		default:
			r.access(s)
		}
		if !through {
			return false
		}
	}
	return true
}

// whole is all that a thread's statements do.
func (r *run) whole(l []prog.Stmt, k int) string {
	if r.block(l, k) {
		r.see("end")
	} else {
		r.see("stuck")
	}
	return strings.Join(r.trace, " | ")
}

// numbers tells one after the other by chance, those that matter more often.
func numbers(seed int64) func() uint64 {
	r := rand.New(rand.NewSource(seed))
	return func() uint64 {
		return [...]uint64{0, 0, 1, 1, 2, most, r.Uint64()}[r.Intn(7)]
	}
}

// P8.1, P8.2: whatever is read, states are where the thread's statements are, with the same registers.
func TestRuns(t *testing.T) {
	met := map[string]int{}
	each(t, 1, 30000, func(c chosen, l []prog.Stmt, k int, p unroll.Thread) {
		for range 3 {
			seed := c.Int63()
			r := run{read: numbers(seed)}
			want := r.whole(l, k)
			var reads []uint64
			for next := numbers(seed); len(reads) < len(r.trace)-1; {
				reads = append(reads, next())
			}
			got := ran(p, reads...)
			if got != want {
				t.Fatalf("%s\nnot\n%s\nk = %d: %s", got, want, k, prog.Test{Threads: [][]prog.Stmt{l}}.Text())
			}
			last, _, _ := strings.Cut(r.trace[len(r.trace)-1], " ")
			met[last]++
			met["accesses"] += len(reads)
		}
	})
	if met["end"] < 1000 || met["stuck"] < 1000 || met["accesses"] < 50000 {
		t.Error(met)
	}
}

// way is what is on one through statements: writes, whether an update, whether it comes through.
type way struct {
	writes          int
	update, through bool
}

type set map[way]bool

// then are the ways through these, and then through others; what does not come through goes no further.
func (s set) then(o set) set {
	all := set{}
	for a := range s {
		if !a.through {
			all[a] = true
			continue
		}
		for b := range o {
			all[way{a.writes + b.writes, a.update || b.update, b.through}] = true
		}
	}
	return all
}

func (s set) put(o set) {
	for a := range o {
		s[a] = true
	}
}

// waysOf are all ways through statements, whatever is asked on them.
func waysOf(l []prog.Stmt, k int) set {
	all := set{{through: true}: true}
	for _, s := range l {
		one := set{}
		switch s.Kind {
		case prog.If:
			one.put(waysOf(s.Then, k))
			one.put(waysOf(s.Else, k))
		case prog.While:
			in, body := set{{through: true}: true}, waysOf(s.Then, k)
			for range k {
				one.put(in)
				in = in.then(body)
			}
			one.put(in)
			one.put(in.then(set{{}: true}))
		case prog.Store:
			one[way{1, false, true}] = true
		case prog.Swap, prog.Add, prog.Cas:
			one[way{1, true, true}] = true
		default:
			one[way{0, false, true}] = true
		}
		all = all.then(one)
	}
	return all
}

// P8.4: from the beginning, the most writes, and updates, are those of the statements' ways.
func TestMostOfStatements(t *testing.T) {
	met := map[bool]int{}
	each(t, 2, 30000, func(_ chosen, l []prog.Stmt, k int, p unroll.Thread) {
		writes, update := 0, false
		for w := range waysOf(l, k) {
			writes, update = max(writes, w.writes), update || w.update
		}
		if n, is := thread.Most(p, p.Begin), thread.Updates(p, p.Begin); n != writes || is != update {
			t.Fatalf("%d, %v, not %d, %v\nk = %d: %s", n, is, writes, update, k, prog.Test{Threads: [][]prog.Stmt{l}}.Text())
		}
		met[update]++
	})
	if met[true] < 1000 || met[false] < 1000 {
		t.Error(met)
	}
}

// gone looks at each way by itself: the most writes, and whether there is an update.
func gone(p unroll.Thread, at int) (int, bool) {
	if unroll.End(p, at) || p.Code[at].Kind == unroll.Stuck {
		return 0, false
	}
	x := p.Code[at]
	writes, update := gone(p, x.Next)
	switch x.Kind {
	case prog.Store:
		return 1 + writes, update
	case prog.Swap, prog.Add, prog.Cas:
		return 1 + writes, true
	case unroll.Branch:
		n, is := gone(p, x.Else)
		return max(writes, n), update || is
	}
	return writes, update
}

// P8.4, P8.5: from each place; Most never grows by Next and Else, and is one less behind each access that may write.
func TestMostOfPlaces(t *testing.T) {
	each(t, 3, 10000, func(_ chosen, l []prog.Stmt, k int, p unroll.Thread) {
		for at := -2; at < len(p.Code)+2; at++ {
			writes, update := gone(p, at)
			n := thread.Most(p, at)
			if n != writes || thread.Updates(p, at) != update {
				t.Fatalf("from %d: %d, %v, not %d, %v\nk = %d: %s", at, n, !update, writes, update, k, prog.Test{Threads: [][]prog.Stmt{l}}.Text())
			}
			if unroll.End(p, at) {
				continue
			}
			x, less := p.Code[at], 0
			if _, _, may := (thread.Access{Kind: x.Kind}).Writes(0); may { // a Cas, too: it finds 0
				less = 1
			}
			if thread.Most(p, x.Next) > n-less || thread.Most(p, x.Else) > n-less {
				t.Fatalf("from %d: %d, and more behind\nk = %d: %s", at, n, k, prog.Test{Threads: [][]prog.Stmt{l}}.Text())
			}
			if less == 1 && thread.Most(p, x.Next) != n-1 {
				t.Fatalf("from %d: %d, and %d behind a write", at, n, thread.Most(p, x.Next))
			}
		}
	})
}

// P8.5: from Begin on at most as many accesses lead to the end, or to Stuck, as there are instructions; on the way the place falls, and Most with what is written.
func TestAccessesEnd(t *testing.T) {
	longest := 0
	see := func(p unroll.Thread, read func() uint64) {
		s, count := thread.Begin(p), 0
		if thread.Most(p, s.At) > thread.Most(p, p.Begin) {
			t.Fatalf("%v: Most grows by running on", p)
		}
		for a, is := thread.Next(p, s); is; a, is = thread.Next(p, s) {
			if count++; count > len(p.Code) {
				t.Fatalf("%v: more than %d accesses", p, len(p.Code))
			}
			n := read()
			_, _, writes := a.Writes(n)
			behind := thread.Done(p, s, n)
			left := thread.Most(p, s.At)
			if writes || a.Kind == prog.Cas {
				left--
			}
			if behind.At >= s.At || thread.Most(p, behind.At) > left || thread.Updates(p, behind.At) && !thread.Updates(p, s.At) {
				t.Fatalf("%v: from %d to %d", p, s.At, behind.At)
			}
			s = behind
		}
		if !thread.Ended(p, s) && p.Code[s.At].Kind != unroll.Stuck {
			t.Fatalf("%v: %d is neither the end nor Stuck", p, s.At)
		}
		longest = max(longest, count)
	}
	each(t, 4, 30000, func(c chosen, _ []prog.Stmt, _ int, p unroll.Thread) {
		for range 3 {
			see(p, numbers(c.Int63()))
		}
	})
	for _, body := range []string{"", strings.Repeat("store(x, 1, rlx); ", 32), strings.Repeat("r0 = cas(x, 0, 1, ar); ", 32), strings.Repeat("fence(sc); ", 31), "while (1) { }"} {
		see(made(t, body, 3), numbers(5))
	}
	if longest != 32 {
		t.Errorf("at most %d accesses", longest)
	}
}
