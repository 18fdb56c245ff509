package unroll

import (
	"slices"
	"strings"

	"troth/expr"
	"troth/prog"
)

// end is the place of a thread's end.
const end = -1

// coder puts a thread's code, with so many iterations of each loop.
type coder struct {
	code  []Instr
	full  bool // more was to be put than there may be: the code is not all, and places tell nothing
	put   func(x Instr) int
	locs  string
	times int
}

func newCoder(locs string, times, most int) *coder {
	c := &coder{locs: locs, times: times}
	c.put = func(x Instr) int {
		at := len(c.code)
		if at == most {
			c.full = true
		} else {
			c.code = append(c.code, x)
		}
		return at
	}
	return c
}

// block puts one that goes on to a place, and tells where it begins.
func (c *coder) block(l []prog.Stmt, to int) int {
	for _, s := range slices.Backward(l) {
		switch {
		case c.full: // loops in loops would be gone through for long
			goto full
		case s.Kind == prog.If:
			to = c.choice(s, to)
		case s.Kind == prog.While:
			to = c.loop(s, to)
		default:
			to = c.plain(s, to)
		}
	}
full:
	return to
}

// choice puts an If.
func (c *coder) choice(s prog.Stmt, to int) int {
	then := c.block(s.Then, to)
	els := c.block(s.Else, to)
	return c.branch(s.A, then, els)
}

// loop puts a While.
func (c *coder) loop(s prog.Stmt, to int) int {
	begin := c.branch(s.A, c.stuck(), to)
	for range c.times {
		begin = c.branch(s.A, c.block(s.Then, begin), to)
	}
	return begin
}

// plain puts a statement without blocks. It goes on to one place, by Next and by Else, so that no way by these leaves the thread's own ways.
func (c *coder) plain(s prog.Stmt, to int) int {
	loc := max(0, strings.IndexByte(c.locs, s.Loc)) // a kind without a location has a letter that is none of these
	return c.put(Instr{Kind: s.Kind, Reg: s.Reg, Mode: s.Mode, Loc: loc, A: s.A, B: s.B, Next: to, Else: to})
}

func (c *coder) branch(a *expr.Expr, then, els int) int {
	return c.put(Instr{Kind: Branch, A: a, Next: then, Else: els})
}

func (c *coder) stuck() int {
	own := len(c.code)
	return c.put(Instr{Kind: Stuck, Next: own, Else: own})
}
