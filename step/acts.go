package step

import (
	"slices"

	"troth/api"
	"troth/memory"
	"troth/prog"
	"troth/thread"
	"troth/view"
)

// nobody is the owner of what no thread owns.
const nobody = -1

// read is what a Load does, and a Cas that does not write.
func (t *turn) read() bool {
	x, is := t.hear()
	_, _, writes := t.a.Writes(x.N)
	t.goOn(x.N)
	return is && !writes
}

// store is what a Store does, whose message is put so.
func store(put func(t *turn, x memory.Item) bool) func(t *turn) bool {
	return func(t *turn) bool { return t.a.Kind == prog.Store && t.tell(memory.Item{}, put) }
}

// update is what an update does that writes, whose message is put so.
func update(put func(t *turn, x memory.Item) bool) func(t *turn) bool {
	return func(t *turn) bool {
		if t.s.S.From() != t.s.Read {
			return false
		}
		x, is := t.hear()
		return is && t.tell(x, put) // of what reads updates alone write
	}
}

// hear reads the message that ends at the step's time.
func (t *turn) hear() (memory.Item, bool) {
	x, is := t.c.M.At(t.a.Loc, t.s.Read)
	mode, reads := t.a.Reads()
	if !is || !reads {
		return memory.Item{}, false
	}
	t.me.V, is = t.me.V.Read(t.a.Loc, t.s.Read, mode, x.V)
	return x, is
}

// tell writes what the access writes, a message being read (of a Store nothing).
func (t *turn) tell(read memory.Item, put func(t *turn, x memory.Item) bool) bool {
	n, mode, writes := t.a.Writes(read.N)
	if !writes || mode == api.Rel && t.bound(func(loc int) bool { return loc == t.a.Loc }) {
		return false
	}
	v, told, is := t.me.V.Write(t.a.Loc, t.s.S.To(), mode, read.V)
	if !is {
		return false
	}
	t.me.V = v
	t.goOn(read.N)
	return put(t, memory.Item{Loc: t.a.Loc, S: t.s.S, N: n, V: told, Owner: nobody})
}

// add puts an item that was not there.
func (t *turn) add(x memory.Item) bool { return t.now(t.c.M.Add(x)) }

// keep puts a message that was promised.
func (t *turn) keep(x memory.Item) bool {
	x.Owner = t.i
	own, _ := t.c.M.At(x.Loc, x.S.To())
	return own == x && t.now(t.c.M.Fulfil(x.Loc, x.S.To(), t.i))
}

// now goes on with another memory, if it came about.
func (t *turn) now(m memory.Memory, err api.Errno) bool {
	t.c.M = m
	return err == api.OK
}

// goOn goes behind the access, a number being read.
func (t *turn) goOn(read uint64) { t.me.S = thread.Done(t.code, t.me.S, read) }

func (t *turn) fence() bool {
	if t.a.Kind != prog.Fence || t.a.Mode != api.Acq && t.bound(func(loc int) bool { return true }) {
		return false
	}
	var is bool
	t.me.V, t.c.S, is = t.me.V.Fence(t.a.Mode, t.c.S)
	t.goOn(0)
	return is
}

func (t *turn) cancel() bool {
	x := memory.Item{Loc: t.s.Loc, S: t.s.S, Res: true, Owner: t.i}
	return slices.Contains(t.own(reserved), x) && t.now(t.c.M.Cancel(x.Loc, x.S.To(), t.i))
}

func (t *turn) promise() bool {
	x := memory.Item{Loc: t.s.Loc, S: t.s.S, N: t.s.N, V: t.s.V, Owner: t.i}
	left := thread.Most(t.code, t.me.S.At) - len(t.own(promised))
	return left > 0 && t.add(x) && t.c.M.Closed(x.V) && x.V.Rlx[x.Loc] <= x.S.To()
}

func (t *turn) reserve() bool {
	x := memory.Item{Loc: t.s.Loc, S: t.s.S, Res: true, Owner: t.i}
	_, begins := t.c.M.At(x.Loc, x.S.From())
	return begins && len(t.own(reserved)) == 0 && thread.Updates(t.code, t.me.S.At) && t.add(x)
}

// bound tells whether a promise of the thread's, at one of the locations, has a view.
func (t *turn) bound(at func(loc int) bool) bool {
	return slices.ContainsFunc(t.own(promised), func(x memory.Item) bool { return at(x.Loc) && x.V != view.View{} })
}
