package expr

import (
	"strconv"

	"troth/num"
)

// stack holds what parts came to, till the operation over them takes it.
type stack[T any] struct{ items []T }

func (s *stack[T]) push(item T) { s.items = append(s.items, item) }

// pop is a zero, if nothing was put: so texts and values of what may not be are nothing and 0.
func (s *stack[T]) pop() T {
	var item T
	if last := len(s.items) - 1; last >= 0 {
		item, s.items = s.items[last], s.items[:last]
	}
	return item
}

// values are the numbers that parts came to.
type values struct{ stack[uint64] }

func (v *values) join(op uint8) {
	if num.Sides(op) == 1 {
		v.push(num.One(op, v.pop()))
		return
	}
	right, left := v.pop(), v.pop()
	v.push(num.Do(op, left, right))
}

// written is a part as it is written, and how strong it is.
type written struct {
	letters  string
	strength int
}

// atLeast are the letters where nothing weaker may stand.
func (w written) atLeast(strength int) string {
	if w.strength < strength {
		return "(" + w.letters + ")"
	}
	return w.letters
}

// texts are the parts as they are written.
type texts struct{ stack[written] }

func (t *texts) leaf(x Expr) { t.push(written{letters(x), leaves}) }

func (t *texts) join(op uint8) {
	sign, strength := num.Text(op), Strength(op)
	if num.Sides(op) == 1 {
		t.push(written{sign + t.pop().atLeast(strength), strength})
		return
	}
	right, left := t.pop(), t.pop()
	t.push(written{left.atLeast(strength) + " " + sign + " " + right.atLeast(strength+1), strength})
}

// letters are those of a leaf.
func letters(x Expr) string {
	switch x.Kind {
	case Reg:
		return register(x.I)
	case Of:
		return strconv.Itoa(int(x.T)) + ":" + register(x.I)
	case Loc:
		return string(rune(x.X))
	}
	return strconv.FormatUint(x.N, 10)
}

func register(i uint8) string { return "r" + strconv.Itoa(int(i)) }
