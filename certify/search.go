package certify

import (
	"slices"

	"troth/config"
	"troth/memory"
	"troth/step"
	"troth/unroll"
)

// alone is a thread that goes on by itself.
type alone struct {
	p unroll.Program
	i int
}

// halt is a configuration that was come to: by which step, and from which halt.
type halt struct {
	c    config.Config
	by   step.Step
	from int
}

// search tells each configuration to which moves lead, this one first, in the order in which they are come to, as long as do says true. The way is the one to the configuration that is told.
func (a alone) search(c config.Config, moves func(c config.Config) []step.Step, do func(c config.Config, way func() []step.Step) bool) {
	l := []halt{{c: c}}
	way := func() []step.Step {
		var back []step.Step
		for at := len(l) - 1; at > 0; at = l[at].from {
			back = append(back, l[at].by)
		}
		slices.Reverse(back)
		return back
	}
	if !do(c, way) { // asked ahead of all else: a thread that owns no promises is often asked for
		return
	}
	seen := map[string]struct{}{c.Ranks().Key(): {}}
search:
	for at := 0; at < len(l); at++ {
		for _, s := range moves(l[at].c) {
			next, _ := step.Do(a.p, l[at].c, a.i, s)
			key := next.Ranks().Key()
			if _, is := seen[key]; is {
				continue
			}
			seen[key] = struct{}{}
			l = append(l, halt{next, s, at})
			if !do(next, way) {
				break search
			}
		}
	}
}

// moves are all that the thread can do.
func (a alone) moves(c config.Config) []step.Step { return step.Moves(a.p, c, a.i) }

// hopeful are as many of its moves as suffice to find out whether promises can be kept: else there would soon be too many ways.
func (a alone) hopeful(c config.Config) []step.Step {
	if a.lost(c) {
		return nil
	}
	l := a.moves(c)
	ends := map[int]struct{}{}
	for _, s := range l {
		if s.Kind == step.Write {
			ends[s.S.To()] = struct{}{}
		}
	}
	return slices.DeleteFunc(l, func(s step.Step) bool {
		_, loose := ends[s.S.From()] // it leaves room ahead of it, where the thread never writes any more: one that leaves none serves as well
		return s.Kind == step.Write && loose
	})
}

// lost tells whether a promise can't be kept any more: the thread writes behind what it knows alone, and never knows less.
func (a alone) lost(c config.Config) bool {
	return slices.ContainsFunc(promises(c, a.i), func(x memory.Item) bool {
		return x.S.To() <= c.T[a.i].V.Cur.Rlx[x.Loc]
	})
}
