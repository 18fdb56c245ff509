package config

import (
	"strconv"
	"strings"

	"troth/api"
	"troth/thread"
	"troth/unroll"
)

// Outcome is what there is in the end.
type Outcome struct {
	R     [][api.Registers]uint64
	Final []uint64
}

// Terminal tells whether it is.
func Terminal(p unroll.Program, c Config) bool {
	if len(c.T) < len(p.Threads) {
		return false
	}
	for i, t := range p.Threads { // of what is behind these there is no code, and no place of it to be at
		if !thread.Ended(t, c.T[i].S) {
			return false
		}
	}
	for owner := range api.MaxThreads {
		if len(c.M.Owned(owner)) > 0 {
			return false
		}
	}
	return true
}

// Ends is its outcome.
func Ends(p unroll.Program, c Config) Outcome {
	var o Outcome
	for _, t := range c.T {
		o.R = append(o.R, t.S.R)
	}
	for loc := range c.M.Locs() {
		last, _ := c.M.Last(loc) // each location has one
		o.Final = append(o.Final, last.N)
	}
	return o
}

// Text is how an outcome is written.
func (o Outcome) Text() string {
	var words []string
	put := func(name string, i int, n uint64) {
		words = append(words, name+strconv.Itoa(i)+"="+strconv.FormatUint(n, 10))
	}
	for i, r := range o.R {
		for reg, n := range r {
			if n != 0 {
				put(strconv.Itoa(i)+":r", reg, n)
			}
		}
	}
	for loc, n := range o.Final {
		put("L", loc, n)
	}
	return strings.Join(words, " ")
}
