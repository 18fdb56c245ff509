package parse

import (
	"troth/api"
	"troth/expr"
	"troth/lex"
	"troth/num"
)

// expression reads a whole one, whose leaves leaf reads. How deep it is, is asked last: faults within it come first.
func (r *reader) expression(leaf func() *expr.Expr) *expr.Expr {
	first := r.next()
	e := r.operations(leaf, 0, expr.Strength(api.Eq))
	if e.Depth() > api.MaxDepth {
		throw(first, api.ErrLimit)
	}
	return e
}

// operations reads parts and the signs between that are no weaker than least; what stands on the right of one must be stronger, so that of one strength the left one binds first.
func (r *reader) operations(leaf func() *expr.Expr, open, least int) *expr.Expr {
	e := r.part(leaf, open)
	for {
		op := operation(r.next(), 2)
		strength := expr.Strength(op)
		if strength < least {
			return e
		}
		r.take()
		e = &expr.Expr{Kind: expr.Two, Op: op, L: e, R: r.operations(leaf, open, strength+1)}
	}
}

// part reads one where so many are open.
func (r *reader) part(leaf func() *expr.Expr, open int) *expr.Expr {
	first := r.next()
	op := operation(first, 1)
	if op == 0 && first.Text != "(" {
		return leaf()
	}
	if open == api.MaxDepth {
		throw(first, api.ErrLimit)
	}
	r.take()
	if op != 0 {
		return &expr.Expr{Kind: expr.One, Op: op, L: r.part(leaf, open+1)}
	}
	e := r.operations(leaf, open+1, expr.Strength(api.Eq))
	r.sign(")")
	return e
}

// operation is the one of so many sides that is written so; of what is none 0.
func operation(p lex.Piece, sides int) uint8 {
	for op := api.Eq; op <= api.Neg; op++ {
		if num.Sides(op) == sides && num.Text(op) == p.Text {
			return op
		}
	}
	return 0
}

// known reads a leaf in a thread.
func (r *reader) known() *expr.Expr {
	if r.next().Kind == lex.Num {
		return &expr.Expr{Kind: expr.Num, N: r.take().N}
	}
	return &expr.Expr{Kind: expr.Reg, I: r.register()}
}

// asked reads a leaf in the question.
func (r *reader) asked() *expr.Expr {
	if r.next().Kind != lex.Num {
		return &expr.Expr{Kind: expr.Loc, X: r.location()}
	}
	n := r.take()
	if !r.has(":") {
		return &expr.Expr{Kind: expr.Num, N: n.N}
	}
	if n.N >= api.MaxThreads {
		throw(n, api.ErrName)
	}
	return &expr.Expr{Kind: expr.Of, T: uint8(n.N), I: r.register()}
}
