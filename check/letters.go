package check

import (
	"troth/expr"
	"troth/prog"
)

// letters tells of each letter, a first, whether it is among them.
type letters ['z' - 'a' + 1]bool

// isLocation tells whether a byte may stand for one: an r begins a register.
func isLocation(x byte) bool { return x >= 'a' && x <= 'z' && x != 'r' }

// put leaves out what is no location: so a part that has none can be put as it is.
func (l *letters) put(x byte) {
	if isLocation(x) {
		l[x-'a'] = true
	}
}

// has is asked of locations alone.
func (l *letters) has(x byte) bool { return l[x-'a'] }

// text are those among them, rising.
func (l *letters) text() string {
	var b []byte
	for i, is := range l {
		if is {
			b = append(b, 'a'+byte(i))
		}
	}
	return string(b)
}

// locations are all letters that a test names, rising, each once.
func locations(t prog.Test) string {
	var l letters
	for _, i := range t.Init {
		l.put(i.Loc)
	}
	for _, thread := range t.Threads {
		prog.Walk(thread, func(s prog.Stmt) { l.put(s.Loc) })
	}
	t.Ask.Walk(func(x expr.Expr) { l.put(x.X) })
	return l.text()
}
