package prog

import (
	"strconv"
	"strings"

	"troth/api"
)

// Text is how the test is written.
func (t Test) Text() string {
	var b strings.Builder
	put := linesOf(&b, 0)
	for _, i := range t.Init {
		put("init ", letter(i.Loc), " = ", strconv.FormatUint(i.N, 10), ";")
	}
	for _, l := range t.Threads {
		put("thread {")
		putBlock(&b, l, 1)
		put("}")
	}
	put(t.quantifier(), " ", t.Ask.Text(), ";")
	return b.String()
}

// linesOf makes a call that puts a line, its words one behind the other, where blocks stand so deep.
func linesOf(b *strings.Builder, deep int) func(words ...string) {
	margin := strings.Repeat("  ", deep)
	return func(words ...string) {
		b.WriteString(margin)
		for _, w := range words {
			b.WriteString(w)
		}
		b.WriteByte('\n')
	}
}

// putBlock puts nothing of a block that stands too deep, since a block may stand in itself.
func putBlock(b *strings.Builder, l []Stmt, deep int) {
	if deep > api.MaxNest {
		return
	}
	put := linesOf(b, deep)
	for _, s := range l {
		switch s.Kind {
		case If:
			put("if (", s.A.Text(), ") {")
			putBlock(b, s.Then, deep+1)
			if len(s.Else) > 0 {
				put("} else {")
				putBlock(b, s.Else, deep+1)
			}
			put("}")
		case While:
			put("while (", s.A.Text(), ") {")
			putBlock(b, s.Then, deep+1)
			put("}")
		case Set:
			put(s.register(), " = ", s.A.Text(), ";")
		case Load:
			put(s.register(), " = ", call("load", letter(s.Loc), Mode(s.Mode)))
		case Store:
			put(call("store", letter(s.Loc), s.A.Text(), Mode(s.Mode)))
		case Swap:
			put(s.register(), " = ", call("swap", letter(s.Loc), s.A.Text(), Mode(s.Mode)))
		case Add:
			put(s.register(), " = ", call("add", letter(s.Loc), s.A.Text(), Mode(s.Mode)))
		case Cas:
			put(s.register(), " = ", call("cas", letter(s.Loc), s.A.Text(), s.B.Text(), Mode(s.Mode)))
		case Fence:
			put(call("fence", Mode(s.Mode)))
		}
	}
}

// call is a statement's end that names what it does, and what it does it with.
func call(name string, parts ...string) string { return name + "(" + strings.Join(parts, ", ") + ");" }

func (s Stmt) register() string { return "r" + strconv.Itoa(int(s.Reg)) }

// letter is a byte as it stands: as a rune it would be two bytes, if it is no letter of these.
func letter(b byte) string { return string([]byte{b}) }

func (t Test) quantifier() string {
	if t.All {
		return "forall"
	}
	return "exists"
}
