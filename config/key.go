package config

import (
	"strconv"

	"troth/memory"
	"troth/tview"
	"troth/view"
)

// key is a text of numbers, each with a blank behind it. How many there are of a thing stands ahead of them, so that no two rows of things have one text.
type key struct{ text []byte }

// Key is its text.
func (c Config) Key() string {
	var k key
	k.ints(c.M.Locs())
	for loc := range c.M.Locs() {
		l := c.M.List(loc)
		k.ints(len(l))
		for _, x := range l {
			k.item(x)
		}
	}
	k.ints(len(c.T))
	for _, t := range c.T {
		k.ints(t.S.At)
		k.numbers(t.S.R[:]...)
		k.views(t.V)
	}
	k.ints(c.S[:]...)
	return string(k.text)
}

func (k *key) item(x memory.Item) {
	kind := 0
	if x.Res {
		kind = 1
	}
	k.ints(kind, x.Owner, x.S.From(), x.S.To())
	k.numbers(x.N)
	k.view(x.V)
}

func (k *key) views(v tview.Views) {
	k.view(v.Cur)
	k.view(v.Acq)
	for _, w := range v.Rel {
		k.view(w)
	}
}

func (k *key) view(v view.View) {
	k.ints(v.Pln[:]...)
	k.ints(v.Rlx[:]...)
}

// ints puts times, places and counts: some may be below 0.
func (k *key) ints(l ...int) {
	for _, n := range l {
		k.text = append(strconv.AppendInt(k.text, int64(n), 10), ' ')
	}
}

// numbers puts numbers of a test.
func (k *key) numbers(l ...uint64) {
	for _, n := range l {
		k.text = append(strconv.AppendUint(k.text, n, 10), ' ')
	}
}
