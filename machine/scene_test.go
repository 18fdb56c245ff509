package machine_test

import (
	"cmp"
	"reflect"
	"slices"
	"testing"

	"troth/api"
	"troth/certify"
	"troth/config"
	"troth/machine"
	"troth/memory"
	"troth/parse"
	"troth/span"
	"troth/step"
	"troth/thread"
	"troth/tview"
	"troth/unroll"
	"troth/view"
)

// nobody owns what is no thread's.
const nobody = -1

// x and y are the places of these two letters.
const (
	x = iota
	y
)

// times are one of each location.
type times = [api.MaxLocations]int

// regs are a thread's registers.
type regs = [api.Registers]uint64

// in is a span that a test knows to be one.
func in(from, to int) span.Span { return span.Span(complex(float64(from), float64(to))) }

// upto is a view that knows of a location a time, both ways.
func upto(loc, to int) view.View { return view.View{Pln: put(loc, to), Rlx: put(loc, to)} }

// put is a time of one location.
func put(loc, at int) (t times) {
	t[loc] = at
	return t
}

// message is one of nobody's, that knows of itself.
func message(loc, from, to int, n uint64) memory.Item { return promised(nobody, loc, from, to, n) }

// promised is a thread's, that knows of itself.
func promised(owner, loc, from, to int, n uint64) memory.Item {
	return memory.Item{Loc: loc, S: in(from, to), N: n, V: upto(loc, to), Owner: owner}
}

// knows is a message or a promise whose view is another one.
func knows(m memory.Item, v ...view.View) memory.Item {
	m.V = view.View{}.Join(v...)
	return m
}

// reserved is a reservation.
func reserved(owner, loc, from, to int) memory.Item {
	return memory.Item{Loc: loc, S: in(from, to), Res: true, Owner: owner}
}

// cur knows one view as cur and acq.
func cur(v view.View) tview.Views { return tview.Views{Cur: v, Acq: v} }

// rel knows one view as cur and acq, and tells it with what it writes to a location.
func rel(loc int, v view.View) tview.Views {
	k := cur(v)
	k.Rel[loc] = v
	return k
}

// Steps of each kind; vow is a promise of a write that knows of itself, and what else it knows, plain one of a write that knows nothing.
var fence = step.Step{Kind: step.Fence}

func read(at int) step.Step        { return step.Step{Kind: step.Read, Read: at} }
func write(from, to int) step.Step { return step.Step{Kind: step.Write, S: in(from, to)} }
func fulfil(from, to int) step.Step {
	return step.Step{Kind: step.Fulfil, S: in(from, to)}
}
func update(from, to int) step.Step {
	return step.Step{Kind: step.Update, Read: from, S: in(from, to)}
}
func redeem(from, to int) step.Step {
	return step.Step{Kind: step.Redeem, Read: from, S: in(from, to)}
}
func cancel(loc, from, to int) step.Step {
	return step.Step{Kind: step.Cancel, Loc: loc, S: in(from, to)}
}
func hold(loc, from, to int) step.Step {
	return step.Step{Kind: step.Reserve, Loc: loc, S: in(from, to)}
}
func plain(loc, from, to int, n uint64) step.Step {
	return step.Step{Kind: step.Promise, Loc: loc, S: in(from, to), N: n}
}
func vow(loc, from, to int, n uint64, more ...view.View) step.Step {
	return step.Step{Kind: step.Promise, Loc: loc, S: in(from, to), N: n, V: upto(loc, to).Join(more...)}
}

// program is that of a text, its loops unrolled so often.
func program(t *testing.T, text string, k int) unroll.Program {
	t.Helper()
	test, at, err := parse.Parse(text)
	if err != api.OK {
		t.Fatal(text, at, err)
	}
	p, err := unroll.Unroll(test, k)
	if err != api.OK {
		t.Fatal(text, err)
	}
	return p
}

// scene is a program, at a configuration of it.
type scene struct {
	*testing.T
	p unroll.Program
	c config.Config
}

// made is a scene of a text, its loops unrolled once, with more items.
func made(t *testing.T, text string, l ...memory.Item) scene {
	t.Helper()
	p := program(t, text, 1)
	return scene{t, p, config.Begin(p)}.with(l...)
}

// one is a scene of one thread of these statements and another one that has ended, with x and y, which are 7 and 8 at first, and more items.
func one(t *testing.T, statements string, l ...memory.Item) scene {
	t.Helper()
	return made(t, "init x = 7; init y = 8; thread { "+statements+" } thread { } exists x + y;", l...)
}

// with is it with more items.
func (s scene) with(l ...memory.Item) scene {
	s.Helper()
	for _, x := range l {
		m, err := s.c.M.Add(x)
		if err != api.OK {
			s.Fatal(x, err)
		}
		s.c.M = m
	}
	return s
}

// knowing is it with other views of the thread 0.
func (s scene) knowing(v tview.Views) scene {
	s.c = s.c.With(0, config.Thread{S: s.c.T[0].S, V: v})
	return s
}

// told is all that a configuration holds, in lists of a test's own.
type told struct {
	items   [][]memory.Item
	threads []config.Thread
	s       times
}

// tell is what a configuration holds.
func tell(c config.Config) told {
	x := told{threads: append([]config.Thread{}, c.T...), s: c.S}
	for loc := range c.M.Locs() {
		x.items = append(x.items, c.M.List(loc))
	}
	return x
}

// toldMove is all that a move holds, in lists of a test's own.
type toldMove struct {
	i    int
	s    step.Step
	cert []step.Step
	next told
}

func tellMove(m machine.Move) toldMove {
	return toldMove{m.I, m.S, append([]step.Step{}, m.Cert...), tell(m.Next)}
}

func tellMoves(l []machine.Move) (all []toldMove) {
	for _, m := range l {
		all = append(all, tellMove(m))
	}
	return all
}

// roomy is a configuration whose list of threads has more behind its end, and what stands in all of that list.
func roomy(c config.Config) (config.Config, func() []config.Thread) {
	l := append(append(make([]config.Thread, 0, len(c.T)+2), c.T...), config.Thread{S: thread.State{At: 99}}, config.Thread{})
	c.T = l[:len(c.T)]
	return c, func() []config.Thread { return slices.Clone(l) }
}

// spoil writes to all lists of moves, and behind their ends. It sees to it that no move shares one with another one.
func (s scene) spoil(l []machine.Move) {
	s.Helper()
	l = l[:cap(l)]
	held := tellMoves(l)
	for n := range l {
		if !reflect.DeepEqual(tellMove(l[n]), held[n]) {
			s.Fatal("a list is another one's too", tellMove(l[n]), held[n])
		}
		cert, threads := l[n].Cert[:cap(l[n].Cert)], l[n].Next.T[:cap(l[n].Next.T)]
		for at := range cert {
			cert[at] = step.Step{Kind: 99}
		}
		for at := range threads {
			threads[at] = config.Thread{S: thread.State{At: 77}}
		}
		l[n] = machine.Move{I: 99}
	}
}

// moves are all at the configuration. It sees to it that what was handed in stays, that the answer is the caller's own, the same again, and each of it a move.
func (s scene) moves() []machine.Move {
	s.Helper()
	c, list := roomy(s.c)
	was, threads := tell(c), list()
	first := machine.Moves(s.p, c)
	held := tellMoves(first)
	s.spoil(first)
	again := machine.Moves(s.p, c)
	if !reflect.DeepEqual(tellMoves(again), held) {
		s.Fatal("not the same again", tellMoves(again), held)
	}
	if !reflect.DeepEqual(tell(c), was) || !slices.Equal(list(), threads) {
		s.Fatal("what was handed in is another one", tell(c), was)
	}
	s.are(again)
	return again
}

// are sees to it that these are moves: thread by thread, of each those of Moves first, with steps that can be done and certificates that hold, to configurations that are told by ranks, one to each.
func (s scene) are(l []machine.Move) {
	s.Helper()
	wide, _ := s.c.Ranks().Spread(3)
	led := map[string]int{}
	if !slices.IsSortedFunc(l, func(a, b machine.Move) int { return order(act{a.I, a.S}, act{b.I, b.S}) }) {
		s.Fatal("not in order", tellMoves(l))
	}
	for _, m := range l {
		behind, is := step.Do(s.p, wide, m.I, m.S)
		if !is {
			s.Fatalf("%d: %v can't be done at %v", m.I, m.S, tell(wide))
		}
		if !reflect.DeepEqual(tell(m.Next), tell(behind.Ranks())) || m.Next.Key() != m.Next.Ranks().Key() {
			s.Fatalf("%d: %v leads to %v, not %v", m.I, m.S, tell(m.Next), tell(behind.Ranks()))
		}
		if led[m.Next.Key()]++; led[m.Next.Key()] > 1 {
			s.Fatal("two moves lead there", tell(m.Next))
		}
		s.shows(behind, m)
	}
}

// shows sees to it that a certificate is one: steps of Moves, done from where certifying starts on, lead to where the thread owns no promise.
func (s scene) shows(c config.Config, m machine.Move) {
	s.Helper()
	c, is := certify.Start(c)
	for _, x := range m.Cert {
		if !is || !slices.Contains(step.Moves(s.p, c, m.I), x) {
			s.Fatalf("%d: %v of %v is none of Moves at %v", m.I, x, m.Cert, tell(c))
		}
		c, is = step.Do(s.p, c, m.I, x)
	}
	own := slices.DeleteFunc(c.M.Owned(m.I), func(z memory.Item) bool { return z.Res })
	if !is || len(own) > 0 {
		s.Fatalf("%d: behind %v, %v leave %v", m.I, m.S, m.Cert, own)
	}
}

// act is a thread's step.
type act struct {
	i int
	s step.Step
}

// by are a thread's acts.
func by(i int, l ...step.Step) (acts []act) {
	for _, s := range l {
		acts = append(acts, act{i, s})
	}
	return acts
}

// order is by threads, then those of Moves ahead of the candidates.
func order(a, b act) int {
	later := func(s step.Step) int {
		if s.Kind == step.Promise || s.Kind == step.Reserve {
			return 1
		}
		return 0
	}
	return cmp.Or(cmp.Compare(a.i, b.i), cmp.Compare(later(a.s), later(b.s)))
}

// lined are acts in this order, and the candidates, which come in none that is said, in one of the test's own.
func lined(l []act) []act {
	at := func(a act) []int {
		return slices.Concat([]int{int(a.s.Kind), a.s.Loc, a.s.S.From(), a.s.S.To(), int(a.s.N)}, a.s.V.Pln[:], a.s.V.Rlx[:])
	}
	l = slices.Clone(l)
	slices.SortStableFunc(l, func(a, b act) int {
		if n := order(a, b); n != 0 || a.s.Kind != step.Promise && a.s.Kind != step.Reserve {
			return n
		}
		return slices.Compare(at(a), at(b))
	})
	return l
}

// acts sees to it that just these can happen next.
func (s scene) acts(want ...act) {
	s.Helper()
	var got []act
	for _, m := range s.moves() {
		got = append(got, act{m.I, m.S})
	}
	if got, want = lined(got), lined(want); !slices.Equal(got, want) {
		s.Errorf("%v, not %v, at %v", got, want, tell(s.c))
	}
}

// can sees to it that the thread 0 can do just these, and no other one does anything.
func (s scene) can(want ...step.Step) {
	s.Helper()
	s.acts(by(0, want...)...)
}

// move is the one by that step of a thread.
func (s scene) move(i int, by step.Step) machine.Move {
	s.Helper()
	l := s.moves()
	at := slices.IndexFunc(l, func(m machine.Move) bool { return m.I == i && m.S == by })
	if at < 0 {
		s.Fatalf("no %v of %d at %v", by, i, tell(s.c))
	}
	return l[at]
}

// ends are promises of a write at both places where it can stand, if nothing but the first message is there.
func ends(loc int, n uint64, more ...view.View) []step.Step {
	return []step.Step{vow(loc, 0, 1, n, more...), vow(loc, 1, 2, n, more...)}
}

// row are so many messages of a location, one behind the other.
func row(loc, count int) (l []memory.Item) {
	for i := range count {
		l = append(l, message(loc, i, i+1, 7))
	}
	return l
}
