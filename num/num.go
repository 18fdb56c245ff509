// Package num is layer 1, numbers that go round: see shared/doc/01-num.md.
package num

import "troth/api"

// texts stands at the numbers of the operations, which count on from 1: the first row is nobody's.
var texts = [...]string{"", "==", "!=", "<", "<=", "+", "-", "|", "^", "*", "/", "%", "&", "!", "-"}

// Do is the answer of an operation of two sides; of others 0.
func Do(op uint8, a, b uint64) uint64 {
	switch op {
	case api.Eq:
		return truth(a == b)
	case api.Ne:
		return truth(a != b)
	case api.Lt:
		return truth(a < b)
	case api.Le:
		return truth(a <= b)
	case api.Add:
		return a + b
	case api.Sub:
		return a - b
	case api.Or:
		return a | b
	case api.Xor:
		return a ^ b
	case api.Mul:
		return a * b
	case api.Div:
		if b == 0 {
			goto none
		}
		return a / b
	case api.Rem:
		if b == 0 {
			goto none
		}
		return a % b
	case api.And:
		return a & b
	}
none: // a right side of 0 must not panic: it has the answer that an operation has that is none
	return 0
}

// One is the answer of an operation of one side; of others 0.
func One(op uint8, a uint64) uint64 {
	switch op {
	case api.Not:
		return truth(a == 0)
	case api.Neg:
		return -a
	}
	return 0
}

// Sides is how many sides an operation has; of what is none 0.
func Sides(op uint8) int {
	switch {
	case op >= api.Eq && op <= api.And:
		return 2
	case op == api.Not || op == api.Neg:
		return 1
	}
	return 0
}

// Text is how an operation is written; what is none is not.
func Text(op uint8) string {
	if int(op) >= len(texts) {
		return ""
	}
	return texts[op]
}

// truth is a comparison's answer as a number, since the language makes none of a bool.
func truth(is bool) uint64 {
	if is {
		return 1
	}
	return 0
}
