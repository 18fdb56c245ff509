package prog

import (
	"slices"

	"troth/api"
	"troth/expr"
)

// pair is two blocks that are held against each other, by where they lie; both are of this length.
type pair struct {
	a, b   *Stmt
	length int
}

// Same tells whether two are alike.
func Same(a, b Test) bool {
	return a.All == b.All && sameExpr(a.Ask, b.Ask) && slices.Equal(a.Init, b.Init) && slices.EqualFunc(a.Threads, b.Threads, sameBlocks())
}

func sameExpr(a, b *expr.Expr) bool { return a == nil && b == nil || expr.Same(a, b) }

// sameBlocks makes a call that tells whether two blocks are alike. A pair that it has met it takes to be alike: a block may stand in itself, and were the pair unlike, the first meeting would tell.
func sameBlocks() func(a, b []Stmt) bool {
	var met []pair
	var same func(a, b []Stmt) bool
	sameStmt := func(a, b Stmt) bool {
		return a.Kind == b.Kind && a.Reg == b.Reg && a.Mode == b.Mode && a.Loc == b.Loc &&
			sameExpr(a.A, b.A) && sameExpr(a.B, b.B) && same(a.Then, b.Then) && same(a.Else, b.Else)
	}
	same = func(a, b []Stmt) bool {
		if len(a) != len(b) {
			return false
		}
		if deeper(a, api.MaxNest) { // others end by themselves: to look for them among those met would only take long
			p := pair{&a[0], &b[0], len(a)}
			if slices.Contains(met, p) {
				return true
			}
			met = append(met, p)
		}
		return slices.EqualFunc(a, b, sameStmt)
	}
	return same
}

// deeper tells whether statements stand in one another more often than room, in blocks too that their kinds do not have.
func deeper(l []Stmt, room int) bool {
	return len(l) > 0 && (room == 0 || slices.ContainsFunc(l, func(s Stmt) bool {
		return deeper(s.Then, room-1) || deeper(s.Else, room-1)
	}))
}
