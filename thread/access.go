package thread

import (
	"troth/api"
	"troth/num"
	"troth/prog"
)

// Access is what a thread does to memory.
type Access struct {
	Kind, Mode uint8
	Loc        int
	A, B       uint64
}

// Update tells whether it is one.
func (a Access) Update() bool {
	return a.Kind == prog.Swap || a.Kind == prog.Add || a.Kind == prog.Cas
}

// Reads is the mode by which it does.
func (a Access) Reads() (uint8, bool) {
	switch {
	case a.Kind == prog.Load:
		return a.Mode, true
	case a.Update():
		return a.half(api.Acq), true
	}
	return 0, false
}

// Writes is what it writes, and the mode.
func (a Access) Writes(read uint64) (uint64, uint8, bool) {
	n, mode := a.A, a.Mode
	if a.Update() {
		mode = a.half(api.Rel)
	}
	switch a.Kind {
	case prog.Cas:
		if read != a.A {
			return 0, 0, false
		}
		n = a.B
		fallthrough // having found its number, it is a swap
	case prog.Store, prog.Swap:
		return n, mode, true
	case prog.Add:
		return num.Do(api.Add, read, n), mode, true
	}
	return 0, 0, false
}

// half is the mode of an update's reading, or of its writing: Ar is strong for both, Acq and Rel for one of them.
func (a Access) half(strong uint8) uint8 {
	if a.Mode == strong || a.Mode == api.Ar {
		return strong
	}
	return api.Rlx
}

// mayWrite tells whether it writes, if the right number is read.
func (a Access) mayWrite() bool { return a.Kind == prog.Store || a.Update() }
