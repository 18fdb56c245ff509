package promise

import (
	"slices"

	"troth/certify"
	"troth/config"
	"troth/places"
	"troth/step"
	"troth/thread"
	"troth/unroll"
)

// alone is a thread that goes on by itself.
type alone struct {
	p    unroll.Program
	i    int
	seen map[string]struct{}
}

// come tells what the thread comes to write, from a configuration on. Of those that certify tells by Reach it looks at as many as suffice to find all that can be promised: of n stores there would be some 2^n.
func (a alone) come(c config.Config, tell func(w write)) {
	code, me := a.p.Threads[a.i], c.T[a.i]
	if thread.Most(code, me.S.At) <= certify.Promises(c, a.i) { // one promise more would not be kept
		return
	}
	key := c.Ranks().Key()
	if _, is := a.seen[key]; is {
		return
	}
	a.seen[key] = struct{}{}
	next(code, me, c.M, tell)
	for _, s := range step.Moves(a.p, c, a.i) {
		if a.loose(c, s) {
			continue
		}
		behind, _ := step.Do(a.p, c, a.i, s)
		a.come(behind, tell)
	}
}

// loose tells whether a step is a write that leaves room ahead of it, where the thread never writes any more: one that leaves none leads to the same writes.
func (a alone) loose(c config.Config, s step.Step) bool {
	x, _ := thread.Next(a.p.Threads[a.i], c.T[a.i].S)
	return s.Kind == step.Write && !slices.Contains(places.Behind(c.M, x.Loc, s.S.From()), s.S)
}
