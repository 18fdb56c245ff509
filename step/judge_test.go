package step_test

import (
	"slices"

	"troth/api"
	"troth/config"
	"troth/memory"
	"troth/places"
	"troth/prog"
	"troth/span"
	"troth/step"
	"troth/thread"
	"troth/unroll"
	"troth/view"
)

// judge tells anew, condition by condition, what is behind a step, from lists of all items; ok is what all conditions so far come to.
type judge struct {
	p     unroll.Program
	c     config.Config
	i     int
	s     step.Step
	items []memory.Item
	a     thread.Access
	at    bool
	ok    bool
}

// judged is the configuration behind a step, and whether it can be done.
func judged(p unroll.Program, c config.Config, i int, s step.Step) (config.Config, bool) {
	j := judge{p: p, c: c, i: i, s: s, ok: true}
	for loc := range c.M.Locs() {
		j.items = append(j.items, c.M.List(loc)...)
	}
	j.a, j.at = thread.Next(p.Threads[i], c.T[i].S)
	me := c.T[i]
	late := c.S
	switch s.Kind {
	case step.Read, step.Update, step.Redeem, step.Write, step.Fulfil:
		me = j.access(me)
	case step.Fence:
		j.must(j.at && j.a.Kind == prog.Fence)
		j.must(j.a.Mode == api.Acq || !j.any(func(z memory.Item) bool { return j.mine(z) && !z.Res && z.V != view.View{} }))
		var is bool
		me.V, late, is = me.V.Fence(j.a.Mode, late)
		j.must(is)
		me.S = thread.Done(p.Threads[i], me.S, 0)
	case step.Cancel:
		gone := func(z memory.Item) bool { return j.mine(z) && z.Res && z.Loc == s.Loc && z.S == s.S }
		j.must(j.any(gone))
		j.items = slices.DeleteFunc(j.items, gone)
	case step.Promise:
		z := memory.Item{Loc: s.Loc, S: s.S, N: s.N, V: s.V, Owner: i}
		had := j.count(func(z memory.Item) bool { return j.mine(z) && !z.Res })
		j.must(had < thread.Most(p.Threads[i], me.S.At))
		j.put(z)
		if j.ok {
			j.must(s.V.Rlx[s.Loc] <= int(imag(s.S)))
			s.V.Map(func(loc, to int) int {
				j.must(to == 0 || j.any(func(z memory.Item) bool { return !z.Res && z.Loc == loc && int(imag(z.S)) == to }))
				return 0
			})
		}
	case step.Reserve:
		j.must(j.any(func(z memory.Item) bool { return !z.Res && z.Loc == s.Loc && imag(z.S) == real(s.S) }))
		j.must(!j.any(func(z memory.Item) bool { return j.mine(z) && z.Res }))
		j.must(thread.Updates(p.Threads[i], me.S.At))
		j.put(memory.Item{Loc: s.Loc, S: s.S, Res: true, Owner: i})
	default:
		j.ok = false
	}
	if !j.ok {
		return c, false
	}
	return config.Config{M: j.memory(), T: c.With(i, me).T, S: late}, true
}

func (j *judge) must(is bool)            { j.ok = j.ok && is }
func (j *judge) mine(z memory.Item) bool { return z.Owner == j.i }

func (j *judge) any(is func(z memory.Item) bool) bool { return slices.ContainsFunc(j.items, is) }

func (j *judge) count(is func(z memory.Item) bool) (n int) {
	for _, z := range j.items {
		if is(z) {
			n++
		}
	}
	return n
}

// access is what a Load, a Store or an update does: whether it reads, and whether it writes, is told by the kind of step.
func (j *judge) access(me config.Thread) config.Thread {
	hears := j.s.Kind == step.Read || j.s.Kind == step.Update || j.s.Kind == step.Redeem
	tells := j.s.Kind != step.Read
	kept := j.s.Kind == step.Fulfil || j.s.Kind == step.Redeem
	j.must(j.at && j.a.Kind != prog.Fence && hears == (j.a.Kind != prog.Store))
	var from memory.Item
	for _, z := range j.items {
		if hears && !z.Res && z.Loc == j.a.Loc && int(imag(z.S)) == j.s.Read {
			from = z
			hears = false
		}
	}
	j.must(!hears) // what is to be read was found
	n, mode, writes := j.a.Writes(from.N)
	j.must(writes == tells)
	if !j.ok {
		return me
	}
	if how, reads := j.a.Reads(); reads {
		me.V, j.ok = me.V.Read(j.a.Loc, j.s.Read, how, from.V)
	}
	if tells {
		j.must(j.a.Kind == prog.Store || real(j.s.S) == float64(j.s.Read))
		j.must(mode != api.Rel || !j.any(func(z memory.Item) bool { return j.mine(z) && !z.Res && z.Loc == j.a.Loc && z.V != view.View{} }))
		v, told, is := me.V.Write(j.a.Loc, int(imag(j.s.S)), mode, from.V)
		j.must(is)
		me.V = v
		j.message(memory.Item{Loc: j.a.Loc, S: j.s.S, N: n, V: told, Owner: nobody}, kept)
	}
	me.S = thread.Done(j.p.Threads[j.i], me.S, from.N)
	return me
}

// message is put, or one's own promise of it is kept.
func (j *judge) message(z memory.Item, kept bool) {
	if !kept {
		j.put(z)
		return
	}
	own := z
	own.Owner = j.i
	at := slices.Index(j.items, own)
	j.must(at >= 0)
	if at >= 0 {
		j.items[at] = z
	}
}

// put is an item added that fits.
func (j *judge) put(z memory.Item) {
	from, to := real(z.S), imag(z.S)
	j.must(z.Loc >= 0 && z.Loc < j.c.M.Locs() && z.V.May())
	j.must(from >= 0 && from < to && to <= span.MaxTime && from == float64(int(from)) && to == float64(int(to)))
	j.must(!j.any(func(w memory.Item) bool { return w.Loc == z.Loc && real(w.S) < to && from < imag(w.S) }))
	j.must(j.count(func(w memory.Item) bool { return w.Loc == z.Loc }) < api.MaxMessages)
	j.items = append(j.items, z)
}

// memory is one of all items.
func (j *judge) memory() memory.Memory {
	var start []uint64
	for loc := range j.c.M.Locs() {
		first, _ := j.c.M.At(loc, 0)
		start = append(start, first.N)
	}
	m, _ := memory.Begin(start)
	for _, z := range j.items {
		if z.S != 0 {
			m, _ = m.Add(z)
		}
	}
	return m
}

// moves are those of a thread, told anew: all steps with spans that they may have, of which those that can be done are put into the chapter's order.
func moves(p unroll.Program, c config.Config, i int) []step.Step {
	a, _ := thread.Next(p.Threads[i], c.T[i].S)
	type ranked struct {
		s     step.Step
		order [4]int // Cancel behind all; what is read; places ahead of promises; which of them
	}
	var l []ranked
	put := func(s step.Step, order ...int) {
		if _, is := judged(p, c, i, s); is {
			r := ranked{s: s}
			copy(r.order[:], order)
			l = append(l, r)
		}
	}
	put(fence)
	for n, z := range c.M.Owned(i) {
		if z.Res {
			put(cancel(z.Loc, int(real(z.S)), int(imag(z.S))), 1, z.Loc, n)
			continue
		}
		if z.Loc != a.Loc {
			continue
		}
		put(step.Step{Kind: step.Fulfil, S: z.S}, 0, 0, 1, n)
		for _, from := range c.M.List(a.Loc) {
			put(step.Step{Kind: step.Redeem, Read: from.S.To(), S: z.S}, 0, from.S.To(), 1, n)
		}
	}
	for n, s := range places.All(c.M, a.Loc) {
		put(step.Step{Kind: step.Write, S: s}, 0, 0, 0, n)
		for _, from := range c.M.List(a.Loc) {
			put(step.Step{Kind: step.Update, Read: from.S.To(), S: s}, 0, from.S.To(), 0, n)
		}
	}
	for _, from := range c.M.List(a.Loc) {
		put(read(from.S.To()), 0, from.S.To())
	}
	slices.SortFunc(l, func(a, b ranked) int { return slices.Compare(a.order[:], b.order[:]) })
	var all []step.Step
	for _, r := range l {
		all = append(all, r.s)
	}
	return all
}
