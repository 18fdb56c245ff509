package memory_test

import (
	"math/rand"
	"slices"
	"testing"

	"troth/api"
	"troth/memory"
	"troth/span"
	"troth/view"
)

// plain is a memory whose items stand as they came: what is asked of it is told item by item, and time by time.
type plain struct {
	locs  int
	items []memory.Item
}

// of are the items of which it is so, in the order of locations and spans.
func (p plain) of(is func(x memory.Item) bool) (l []memory.Item) {
	for _, x := range p.items {
		if is(x) {
			l = append(l, x)
		}
	}
	slices.SortFunc(l, func(a, b memory.Item) int {
		if a.Loc != b.Loc {
			return a.Loc - b.Loc
		}
		return int(imag(a.S)) - int(imag(b.S))
	})
	return l
}

// messageAt tells whether a message ends there.
func (p plain) messageAt(loc, to int) bool {
	return len(p.of(func(x memory.Item) bool { return !x.Res && x.Loc == loc && int(imag(x.S)) == to })) == 1
}

// overlap tells whether a time is in both.
func overlap(a, b span.Span) bool {
	for at := real(a) + 1; at <= imag(a); at++ {
		if at > real(b) && at <= imag(b) {
			return true
		}
	}
	return false
}

// add is what Add must answer.
func (p plain) add(x memory.Item) (plain, api.Errno) {
	if x.Loc < 0 || x.Loc >= p.locs || x.Owner < -1 || x.Owner > 3 || real(x.S) < 0 || real(x.S) >= imag(x.S) || imag(x.S) > 1<<20 {
		return p, api.ErrArg
	}
	for loc := range api.MaxLocations {
		if x.V.Pln[loc] < 0 || x.V.Pln[loc] > x.V.Rlx[loc] || x.Res && x.V.Rlx[loc] != 0 {
			return p, api.ErrArg
		}
	}
	if x.Res && x.N != 0 {
		return p, api.ErrArg
	}
	there := p.of(func(y memory.Item) bool { return y.Loc == x.Loc })
	for _, y := range there {
		if overlap(x.S, y.S) {
			return p, api.ErrState
		}
	}
	if len(there) > 39 {
		return p, api.ErrLimit
	}
	return plain{p.locs, append(slices.Clone(p.items), x)}, api.OK
}

// end is what Fulfil, or Cancel, must answer.
func (p plain) end(loc, to, owner int, res bool) (plain, api.Errno) {
	if loc < 0 || loc >= p.locs {
		return p, api.ErrArg
	}
	for i, x := range p.items {
		if x.Loc != loc || x.Owner < 0 || x.Owner != owner || int(imag(x.S)) != to || x.Res != res {
			continue
		}
		l := append(slices.Clone(p.items[:i]), p.items[i+1:]...)
		if !res {
			x.Owner = -1
			l = append(l, x)
		}
		return plain{p.locs, l}, api.OK
	}
	return p, api.ErrNone
}

// one is a memory, and what it must hold.
type one struct {
	m memory.Memory
	p plain
}

// same holds all answers of a memory against what they must be.
func (o one) same(t *testing.T, views ...view.View) {
	t.Helper()
	if o.m.Locs() != o.p.locs {
		t.Fatal(o.m.Locs(), o.p)
	}
	for loc := -1; loc <= o.p.locs; loc++ {
		l := o.p.of(func(x memory.Item) bool { return x.Loc == loc })
		if !slices.Equal(o.m.List(loc), l) {
			t.Fatalf("%d: %v, not %v", loc, o.m.List(loc), l)
		}
		messages := o.p.of(func(x memory.Item) bool { return x.Loc == loc && !x.Res })
		last, is := o.m.Last(loc)
		if is != (len(messages) > 0) || is && last != messages[len(messages)-1] {
			t.Fatal(loc, last, is, messages)
		}
		for _, x := range l {
			got, is := o.m.At(loc, int(imag(x.S)))
			if is == x.Res || is && got != x {
				t.Fatal(x, got, is)
			}
		}
	}
	for owner := -2; owner <= api.MaxThreads; owner++ {
		if l := o.p.of(func(x memory.Item) bool { return x.Owner == owner }); !slices.Equal(o.m.Owned(owner), l) {
			t.Fatalf("%d: %v, not %v", owner, o.m.Owned(owner), l)
		}
	}
	for _, v := range views {
		closed := true
		for loc := range api.MaxLocations {
			for _, at := range []int{v.Pln[loc], v.Rlx[loc]} {
				closed = closed && (loc < o.p.locs && o.p.messageAt(loc, at) || loc >= o.p.locs && at == 0)
			}
		}
		if o.m.Closed(v) != closed {
			t.Fatal(v, !closed, o.p)
		}
	}
}

// chance makes items and acts by chance.
type chance struct {
	*rand.Rand
	locs, late, long int // up to which time items end, and how much they hold at the most
}

// item is one that often has room, and seldom may not be.
func (c chance) item() memory.Item {
	to := 1 + c.Intn(c.late)
	x := memory.Item{Loc: c.Intn(c.locs), S: in(max(0, to-1-c.Intn(c.long)), to), Owner: c.Intn(5) - 1, Res: c.Intn(3) == 0}
	if !x.Res {
		x.N, x.V = uint64(c.Intn(3)), c.view()
	}
	switch c.Intn(60) {
	case 0:
		x.Loc = []int{-1, c.locs}[c.Intn(2)]
	case 1:
		x.Owner = []int{-2, 4, 5}[c.Intn(3)]
	case 2:
		x.S = in(to, to-c.Intn(2))
	case 3:
		x.S = []span.Span{0, in(-1, to), in(0, 1<<20+1)}[c.Intn(3)]
	case 4:
		x.N, x.V = uint64(c.Intn(2)), c.view()
	case 5:
		x.V.Pln[c.Intn(api.MaxLocations)] += c.Intn(4) - 1
	}
	return x
}

// view is one that may be, most times at locations that there are.
func (c chance) view() (v view.View) {
	for loc := range api.MaxLocations {
		if loc < c.locs && c.Intn(2) == 0 || c.Intn(40) == 0 {
			v.Rlx[loc] = c.Intn(c.late)
			v.Pln[loc] = c.Intn(v.Rlx[loc] + 1)
		}
	}
	return v
}

// wild are a location, a time and an owner, most of something that is there.
func (c chance) wild(p plain) (loc, to, owner int) {
	x := p.items[c.Intn(len(p.items))]
	loc, to, owner = x.Loc, int(imag(x.S)), x.Owner
	switch c.Intn(12) {
	case 0:
		loc = c.Intn(c.locs+2) - 1
	case 1:
		to += c.Intn(3) - 1
	case 2:
		owner = c.Intn(7) - 2
	}
	return loc, to, owner
}

// act is what comes of a memory by some act, and what must come of it.
func (c chance) act(o one) (next one, err, want api.Errno) {
	if c.Intn(2) == 0 {
		x := c.item()
		next.m, err = o.m.Add(x)
		next.p, want = o.p.add(x)
		return next, err, want
	}
	loc, to, owner := c.wild(o.p)
	if c.Intn(2) == 0 {
		next.m, err = o.m.Fulfil(loc, to, owner)
		next.p, want = o.p.end(loc, to, owner, false)
		return next, err, want
	}
	next.m, err = o.m.Cancel(loc, to, owner)
	next.p, want = o.p.end(loc, to, owner, true)
	return next, err, want
}

// opening is a memory at first, by chance.
func (c chance) opening(t *testing.T) one {
	start := make([]uint64, c.locs)
	o := one{p: plain{locs: c.locs}}
	for loc := range start {
		start[loc] = uint64(c.Intn(3))
		o.p.items = append(o.p.items, memory.Item{Loc: loc, N: start[loc], Owner: -1})
	}
	o.m = begun(t, start...)
	return o
}

// P11.1 to P11.4: acts by chance on memories by chance, each on one of all that came before; in the end all memories, and all lists that were handed out, are as they were.
func TestActsByChance(t *testing.T) {
	found := map[api.Errno]int{}
	for seed := range int64(60) {
		c := chance{rand.New(rand.NewSource(seed)), 1 + int(seed)%api.MaxLocations, 12, 4}
		if seed%3 == 0 {
			c.locs, c.late, c.long = 1+int(seed)%2, 400, 1
		}
		all := []one{c.opening(t)}
		var lists, copies [][]memory.Item
		for range 300 {
			o := all[max(0, len(all)-1-c.Intn(4))]
			next, err, want := c.act(o)
			if err != want {
				t.Fatal(err, want, o.p)
			}
			found[err]++
			next.same(t, c.view())
			l := next.m.List(c.Intn(c.locs))
			lists, copies = append(lists, l), append(copies, slices.Clone(l))
			if err == api.OK {
				all = append(all, next)
			}
		}
		for _, o := range all {
			o.same(t)
		}
		if !alike(lists, copies) {
			t.Error(seed, "a list that was handed out is another one")
		}
	}
	for _, err := range []api.Errno{api.OK, api.ErrArg, api.ErrState, api.ErrLimit, api.ErrNone} {
		if found[err] < 50 {
			t.Error(err, found)
		}
	}
}

// P11.5: whatever is done, the items of a location are apart, rise, and hold some time but for the first one.
func TestItemsStayApart(t *testing.T) {
	for seed := range int64(60) {
		c := chance{rand.New(rand.NewSource(seed)), 1 + int(seed)%api.MaxLocations, 15, 5}
		o := c.opening(t)
		for range 200 {
			o, _, _ = c.act(o)
			for loc := range c.locs {
				rises(t, o.m.List(loc))
			}
		}
	}
}

// rises holds the list of a location against what must follow.
func rises(t *testing.T, l []memory.Item) {
	t.Helper()
	for i, x := range l {
		if i == 0 && (x.S != 0 || x.Res || x.Owner != -1 || x.V != view.View{}) || i > 0 && !(real(x.S) < imag(x.S)) || x.Loc != l[0].Loc {
			t.Fatal(i, l)
		}
		for _, y := range l[:i] {
			if overlap(x.S, y.S) || !span.Apart(x.S, y.S) || span.Compare(y.S, x.S) != -1 || imag(y.S) > real(x.S) {
				t.Fatal(x, y)
			}
		}
	}
}

// P11.5: Cancel undoes the Add of a reservation; Fulfil changes an owner alone, and undoes nothing.
func TestUndone(t *testing.T) {
	undone, fulfilled := 0, 0
	for seed := range int64(60) {
		c := chance{rand.New(rand.NewSource(seed)), 1 + int(seed)%api.MaxLocations, 20, 3}
		o := c.opening(t)
		for range 60 {
			x := c.item()
			next, err := o.m.Add(x)
			if err != api.OK || x.Owner < 0 {
				o, _, _ = c.act(o)
				continue
			}
			if x.Res {
				back, err := next.Cancel(x.Loc, int(imag(x.S)), x.Owner)
				if err != api.OK || !alike(told(back), told(o.m)) {
					t.Fatal(x, err, told(back))
				}
				undone++
				continue
			}
			done, err := next.Fulfil(x.Loc, int(imag(x.S)), x.Owner)
			if err != api.OK || !alike(told(done), owned(told(next), x)) {
				t.Fatal(x, err, told(done))
			}
			fulfilled++
		}
	}
	if undone < 100 || fulfilled < 100 {
		t.Error(undone, fulfilled)
	}
}

// owned are lists in which an item is nobody's.
func owned(l [][]memory.Item, x memory.Item) [][]memory.Item {
	for _, items := range l {
		for i, y := range items {
			if y == x {
				items[i].Owner = -1
			}
		}
	}
	return l
}

// spans are all that hold some time, up to a time.
func spans(late int) (l []span.Span) {
	for to := 1; to <= late; to++ {
		for from := range to {
			l = append(l, in(from, to))
		}
	}
	return l
}

// P11.1, P11.5: of all rows of four short spans each has room just if no time of it is taken; the list does not tell in what order they came.
func TestAllShortRows(t *testing.T) {
	l := spans(4)
	var grow func(o one, left int)
	grow = func(o one, left int) {
		o.same(t)
		if left == 0 {
			return
		}
		for i, s := range l {
			x := memory.Item{S: s, N: uint64(i), Owner: i%5 - 1}
			m, err := o.m.Add(x)
			p, want := o.p.add(x)
			if err != want {
				t.Fatal(x, err, o.p)
			}
			if err == api.OK {
				grow(one{m, p}, left-1)
			}
		}
	}
	grow(one{begun(t, 7), plain{1, []memory.Item{first(0, 7)}}}, 4)
}

// P11.1, P11.2: of two unlike acts upon one memory each leaves that memory, and what came of the other one, as they were.
func TestTwoUnlikeActs(t *testing.T) {
	acts := []func(m memory.Memory) memory.Memory{
		func(m memory.Memory) memory.Memory { m, _ = m.Fulfil(0, 3, 1); return m },
		func(m memory.Memory) memory.Memory { m, _ = m.Cancel(0, 5, 1); return m },
		func(m memory.Memory) memory.Memory { m, _ = m.Fulfil(0, 9, 2); return m },
		func(m memory.Memory) memory.Memory { m, _ = m.Cancel(0, 11, 2); return m },
	}
	for i, s := range spans(14) {
		acts = append(acts, func(m memory.Memory) memory.Memory {
			m, _ = m.Add(memory.Item{S: s, N: uint64(i), Owner: i%5 - 1})
			return m
		})
	}
	l := []memory.Item{promise(0, 2, 3, 1, 1), kept(0, 4, 5, 1), promise(0, 7, 9, 2, 2), kept(0, 9, 11, 2)}
	for _, order := range [][]int{{}, {0}, {1}, {0, 1}, {1, 0}, {0, 1, 2}, {2, 1, 0}, {0, 1, 2, 3}, {3, 2, 1, 0}, {2, 0, 3, 1}} {
		build := func() memory.Memory {
			m := begun(t, 7)
			for _, i := range order {
				m = with(t, m, l[i])
			}
			return m
		}
		m, was := build(), told(build())
		for _, a := range acts {
			for _, b := range acts {
				x, y := a(m), b(m)
				z := b(x)
				if !alike(told(x), told(a(build()))) || !alike(told(y), told(b(build()))) || !alike(told(z), told(b(a(build())))) || !alike(told(m), was) {
					t.Fatal(order, told(m), told(x), told(y), told(z))
				}
			}
		}
	}
}
