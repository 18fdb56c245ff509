package promise

import (
	"slices"

	"troth/api"
	"troth/certify"
	"troth/config"
	"troth/memory"
	"troth/span"
	"troth/thread"
	"troth/tview"
	"troth/unroll"
	"troth/view"
)

// open stands for the time that is open: it is behind all times there are.
const open = span.MaxTime + 1

// write is what a thread comes to write. Its view's time of its own location is open, unless the view is nothing.
type write struct {
	loc int
	n   uint64
	v   view.View
}

// moment is a time of a location.
type moment struct{ loc, at int }

// writes are what a thread comes to write, by itself, and may promise: each once, in the order in which it comes to them.
func writes(p unroll.Program, c config.Config, i int) []write {
	start, is := certify.Start(c)
	if !is {
		return nil
	}
	var l []write
	found := map[write]struct{}{}
	times := since(start, c)
	alone{p, i, map[string]struct{}{}}.come(start, func(w write) {
		w, known := w.told(times)
		if _, is := found[w]; is || !known {
			return
		}
		found[w] = struct{}{}
		l = append(l, w)
	})
	return l
}

// next tells what a thread would write next, if it is at what writes: of an update, behind each message that it may read.
func next(code unroll.Thread, me config.Thread, m memory.Memory, tell func(w write)) {
	a, _ := thread.Next(code, me.S)
	put := func(v tview.Views, read memory.Item) {
		n, mode, writes := a.Writes(read.N)
		if !writes || mode == api.Rel {
			return
		}
		_, knows, _ := v.Write(a.Loc, open, mode, read.V)
		tell(write{a.Loc, n, knows})
	}
	if !a.Update() {
		put(me.V, memory.Item{})
		return
	}
	mode, _ := a.Reads()
	for _, x := range messages(m, a.Loc) {
		if v, may := me.V.Read(a.Loc, x.S.To(), mode, x.V); may {
			put(v, x)
		}
	}
}

// since tells, of each time at which a message ends where certifying starts, when it ended ahead of that.
func since(start, c config.Config) map[moment]int {
	times := map[moment]int{}
	for loc := range c.M.Locs() {
		was := messages(c.M, loc)
		for n, x := range messages(start.M, loc) { // they are the same, at other times
			times[moment{loc, x.S.To()}] = was[n].S.To()
		}
	}
	return times
}

// messages are those of a location, in order.
func messages(m memory.Memory, loc int) []memory.Item {
	return slices.DeleteFunc(m.List(loc), func(x memory.Item) bool { return x.Res })
}

// told is it by other times; false, if it knows of a message that has none: that was written on the way.
func (w write) told(times map[moment]int) (write, bool) {
	known := true
	w.v = w.v.Map(func(loc, t int) int {
		if t == 0 || t == open {
			return t
		}
		was, is := times[moment{loc, t}]
		known = known && is
		return was
	})
	return w, known
}

// at is its view, if it ends at that time.
func (w write) at(to int) view.View {
	return w.v.Map(func(_, t int) int {
		if t == open {
			return to
		}
		return t
	})
}
