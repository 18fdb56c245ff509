package parse

import (
	"troth/api"
	"troth/lex"
	"troth/prog"
)

// block reads one that is so deep.
func (r *reader) block(deep int) []prog.Stmt {
	first := r.next()
	r.sign("{")
	if deep > api.MaxNest {
		throw(first, api.ErrLimit)
	}
	var l []prog.Stmt
	for !r.has("}") {
		l = append(l, r.statement(deep))
	}
	return l
}

// statement reads one of a block that is so deep.
func (r *reader) statement(deep int) prog.Stmt {
	var s prog.Stmt
	switch p := r.of(lex.Word); p.Text {
	case "if":
		s.Kind = prog.If
		r.within(&s, r.first)
		s.Then = r.block(deep + 1)
		if r.has("else") {
			s.Else = r.block(deep + 1)
		}
		return s
	case "while":
		s.Kind = prog.While
		r.within(&s, r.first)
		s.Then = r.block(deep + 1)
		return s
	case "store":
		s.Kind = prog.Store
		r.within(&s, r.place, r.first, r.mode)
	case "fence":
		s.Kind = prog.Fence
		r.within(&s, r.mode)
	default:
		s.Reg = registerOf(p)
		r.sign("=")
		r.got(&s)
	}
	r.sign(";")
	return s
}

// got reads what a register gets.
func (r *reader) got(s *prog.Stmt) {
	switch {
	case r.has("load"):
		s.Kind = prog.Load
		r.within(s, r.place, r.mode)
	case r.has("swap"):
		s.Kind = prog.Swap
		r.within(s, r.place, r.first, r.mode)
	case r.has("add"):
		s.Kind = prog.Add
		r.within(s, r.place, r.first, r.mode)
	case r.has("cas"):
		s.Kind = prog.Cas
		r.within(s, r.place, r.first, r.second, r.mode)
	default:
		s.Kind = prog.Set
		r.first(s)
	}
}

// within reads the parts that a statement has in parentheses: each wanted one puts its own into it.
func (r *reader) within(s *prog.Stmt, wanted ...func(s *prog.Stmt)) {
	r.sign("(")
	for i, want := range wanted {
		if i > 0 {
			r.sign(",")
		}
		want(s)
	}
	r.sign(")")
}

func (r *reader) place(s *prog.Stmt) { s.Loc = r.location() }

func (r *reader) first(s *prog.Stmt) { s.A = r.expression(r.known) }

func (r *reader) second(s *prog.Stmt) { s.B = r.expression(r.known) }

// mode reads one that the statement's kind may have.
func (r *reader) mode(s *prog.Stmt) {
	p := r.of(lex.Word)
	for _, m := range prog.Modes(s.Kind) {
		if prog.Mode(m) == p.Text {
			s.Mode = m
			return
		}
	}
	throw(p, api.ErrName)
}
