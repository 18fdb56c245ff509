package step

import (
	"slices"

	"troth/config"
	"troth/memory"
	"troth/places"
	"troth/prog"
	"troth/span"
	"troth/thread"
	"troth/unroll"
)

// turn is a thread's, at a configuration. What is done changes the turn alone: a step that can't be done is left together with it.
type turn struct {
	code unroll.Thread
	c    config.Config
	i    int
	me   config.Thread
	a    thread.Access // of no kind, if the thread is at none
	s    Step
}

// begin is the turn of a thread, if there is such a one.
func begin(p unroll.Program, c config.Config, i int) (turn, bool) {
	if i < 0 || i >= len(p.Threads) || i >= len(c.T) {
		return turn{}, false
	}
	t := turn{code: p.Threads[i], c: c, i: i, me: c.T[i]}
	t.a, _ = thread.Next(t.code, t.me.S)
	return t, true
}

// each tells, in their order, the steps among which all moves are.
func (t *turn) each(put func(s Step)) {
	promises := t.own(func(x memory.Item) bool { return promised(x) && x.Loc == t.a.Loc })
	write := func(free []span.Span, s, kept Step) {
		for _, at := range free {
			s.S = at
			put(s)
		}
		for _, x := range promises {
			kept.S = x.S
			put(kept)
		}
	}
	_, reads := t.a.Reads()
	switch {
	case t.a.Kind == prog.Fence:
		put(Step{Kind: Fence})
	case t.a.Kind == prog.Store:
		write(places.All(t.c.M, t.a.Loc), Step{Kind: Write}, Step{Kind: Fulfil})
	case reads:
		for _, x := range t.c.M.List(t.a.Loc) {
			if reserved(x) {
				continue
			}
			to := x.S.To()
			put(Step{Kind: Read, Read: to})
			if t.a.Update() {
				write(places.Behind(t.c.M, t.a.Loc, to), Step{Kind: Update, Read: to}, Step{Kind: Redeem, Read: to})
			}
		}
	}
	for _, x := range t.own(reserved) {
		put(Step{Kind: Cancel, Loc: x.Loc, S: x.S})
	}
}

// own are those of the thread's items of which it is so.
func (t *turn) own(is func(x memory.Item) bool) []memory.Item {
	return slices.DeleteFunc(t.c.M.Owned(t.i), func(x memory.Item) bool { return !is(x) })
}

func reserved(x memory.Item) bool { return x.Res }

func promised(x memory.Item) bool { return !x.Res }
