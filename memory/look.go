package memory

import (
	"slices"

	"troth/view"
)

// Locs is how many locations it has.
func (m Memory) Locs() int { return m.locs }

// List is what is at a location.
func (m Memory) List(loc int) []Item {
	if !m.has(loc) {
		return nil
	}
	return slices.Clone(m.at[loc])
}

// At is the message that ends there.
func (m Memory) At(loc, to int) (Item, bool) {
	return m.last(loc, func(x Item) bool { return x.S.To() == to })
}

// Last is the last message.
func (m Memory) Last(loc int) (Item, bool) {
	return m.last(loc, func(x Item) bool { return true })
}

// Owned are all of an owner.
func (m Memory) Owned(owner int) []Item {
	var of []Item
	for _, l := range m.at {
		for _, x := range l {
			if x.Owner == owner {
				of = append(of, x)
			}
		}
	}
	return of
}

// Closed tells whether a view's times are messages'.
func (m Memory) Closed(v view.View) bool {
	return v == v.Map(func(loc, t int) int {
		if _, is := m.At(loc, t); is {
			return t
		}
		return 0 // at each location of the memory a message ends at 0, and elsewhere 0 is asked for
	})
}

// last is the last message of a location of which it is so.
func (m Memory) last(loc int, is func(x Item) bool) (Item, bool) {
	if !m.has(loc) {
		return Item{}, false
	}
	for _, x := range slices.Backward(m.at[loc]) {
		if !x.Res && is(x) {
			return x, true
		}
	}
	return Item{}, false
}
