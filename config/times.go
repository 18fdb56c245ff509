package config

import (
	"maps"
	"math"
	"slices"

	"troth/api"
	"troth/memory"
	"troth/span"
)

// Ranks is it, told by ranks.
func (c Config) Ranks() Config {
	var at [api.MaxLocations][]int // of a location that there is not: no ends
	for loc := range c.M.Locs() {
		at[loc] = ends(c.M.List(loc))
	}
	return c.timed(func(loc, t int) int {
		below, is := slices.BinarySearch(at[loc], t)
		if is {
			return below
		}
		return max(below-1, 0)
	})
}

// Spread is it with greater times.
func (c Config) Spread(n int) (Config, bool) {
	if n < 1 {
		return c.own(), false
	}
	fits := true
	wide := c.timed(func(loc, t int) int {
		if t > span.MaxTime/n || t < math.MinInt/n { // asked ahead of the product, which may be more than a number holds
			fits = false
			return 0
		}
		return t * n
	})
	if !fits {
		return c.own(), false
	}
	return wide, true
}

// ends are all times at which an item of a location begins or ends, each once, rising.
func ends(l []memory.Item) []int {
	found := map[int]struct{}{}
	for _, x := range l {
		found[x.S.From()], found[x.S.To()] = struct{}{}, struct{}{}
	}
	return slices.Sorted(maps.Keys(found))
}

// timed is it with each time as a function tells it.
func (c Config) timed(f func(loc, t int) int) Config {
	c = c.own()
	c.M = timedMemory(c.M, f)
	for i := range c.T {
		c.T[i].V = c.T[i].V.Map(f)
	}
	for loc, t := range c.S {
		c.S[loc] = f(loc, t)
	}
	return c
}

// timedMemory is a memory built anew, with each time as a function tells it. What may not be there, at times that have grown too great, is left out: then nobody is handed the memory.
func timedMemory(m memory.Memory, f func(loc, t int) int) memory.Memory {
	var start []uint64
	for loc := range m.Locs() {
		first, _ := m.At(loc, 0) // the one that each location has from its beginning on: no other one ends at 0
		start = append(start, first.N)
	}
	next, _ := memory.Begin(start)
	for loc := range m.Locs() {
		for _, x := range m.List(loc)[1:] {
			x.S, _ = span.Of(f(loc, x.S.From()), f(loc, x.S.To()))
			x.V = x.V.Map(f)
			next, _ = next.Add(x)
		}
	}
	return next
}
