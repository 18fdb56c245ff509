package thread

import "troth/unroll"

// Most is the most writes on one way.
func Most(t unroll.Thread, at int) int { return most(t, at, Access.mayWrite) }

// Updates tells whether one way has an update.
func Updates(t unroll.Thread, at int) bool { return most(t, at, Access.Update) > 0 }

// most is the most accesses that count, on one way from a place. It goes through the places, lowest first, since all lead down: of ways there may be twice as many with each Branch.
func most(t unroll.Thread, from int, counts func(a Access) bool) int {
	if unroll.End(t, from) {
		return 0
	}
	found := make([]int, from+1)
	for at, x := range t.Code[:from+1] {
		behind := func(to int) int {
			if to < 0 || to >= at {
				return 0
			}
			return found[to]
		}
		switch {
		case x.Kind == unroll.Stuck: // no way leads on
		case x.Kind == unroll.Branch:
			found[at] = max(behind(x.Next), behind(x.Else))
		case counts(Access{Kind: x.Kind}):
			found[at] = 1 + behind(x.Next)
		default:
			found[at] = behind(x.Next)
		}
	}
	return found[from]
}
