package check

import (
	"slices"

	"troth/api"
	"troth/expr"
	"troth/prog"
)

// parts tells which ones a kind has.
type parts struct{ register, location, mode, a, b, then, els bool }

// kinds stands at the numbers of the kinds, which count on from 1: the first row is nobody's.
var kinds = [...]parts{
	prog.Set:   {register: true, a: true},
	prog.Load:  {register: true, location: true, mode: true},
	prog.Store: {location: true, a: true, mode: true},
	prog.Swap:  {register: true, location: true, a: true, mode: true},
	prog.Add:   {register: true, location: true, a: true, mode: true},
	prog.Cas:   {register: true, location: true, a: true, b: true, mode: true},
	prog.Fence: {mode: true},
	prog.If:    {a: true, then: true, els: true},
	prog.While: {a: true, then: true},
}

// statementsMay tells whether all may be, as far as blocks are not deeper than MaxNest.
func statementsMay(threads [][]prog.Stmt) bool {
	may := true
	for _, l := range threads {
		prog.Walk(l, func(s prog.Stmt) { may = may && statementMay(s) })
	}
	return may
}

// statementMay leaves out what stands in the statement's blocks.
func statementMay(s prog.Stmt) bool {
	if s.Kind == 0 || int(s.Kind) >= len(kinds) {
		return false
	}
	has := kinds[s.Kind]
	return fits(has.register, s.Reg < api.Registers, s.Reg == 0) &&
		fits(has.location, isLocation(s.Loc), s.Loc == 0) &&
		fits(has.mode, slices.Contains(prog.Modes(s.Kind), s.Mode), s.Mode == 0) &&
		fits(has.a, exprMay(s.A, expr.Num, expr.Reg), s.A == nil) &&
		fits(has.b, exprMay(s.B, expr.Num, expr.Reg), s.B == nil) &&
		fits(has.then, true, len(s.Then) == 0) &&
		fits(has.els, true, len(s.Else) == 0)
}

// fits tells of a part that the kind has whether it may be, and of another one whether it is zero.
func fits(has, may, zero bool) bool {
	if has {
		return may
	}
	return zero
}
