package parse_test

import (
	"math/rand"
	"reflect"
	"slices"
	"strings"
	"testing"

	"troth/api"
	"troth/lex"
	"troth/parse"
	"troth/prog"
)

// symbol is what is wanted next: a thing by its name, or else just these letters.
type symbol struct {
	name string
	n    int // how many are open, how deep it is, how many stand ahead, or where it began
}

// judge tells the first fault of pieces by what is wanted, which it holds on a stack, without making a tree.
type judge struct {
	pieces []lex.Piece
	i      int
	wanted []symbol // the next one last
}

// push has these wanted next, one behind the other.
func (j *judge) push(l ...symbol) {
	slices.Reverse(l)
	j.wanted = append(j.wanted, l...)
}

// letters are symbols that stand for themselves.
func letters(text string) []symbol {
	var l []symbol
	for _, s := range strings.Fields(text) {
		l = append(l, symbol{name: s})
	}
	return l
}

// first tells the place of the first fault, and its error; OK if there is none.
func (j *judge) first() (api.Place, api.Errno) {
	j.push(symbol{name: "tests"})
	for len(j.wanted) > 0 {
		s := j.wanted[len(j.wanted)-1]
		j.wanted = j.wanted[:len(j.wanted)-1]
		if s.name == "deep?" {
			if shapeOf(j.pieces[s.n:j.i]) > 12 {
				return j.pieces[s.n].At, api.ErrLimit
			}
			continue
		}
		if err := j.step(s, j.pieces[j.i]); err != api.OK {
			return j.pieces[j.i].At, err
		}
	}
	return api.Place{}, api.OK
}

// step holds a piece against what is wanted, takes it if it is that, and has wanted what this consists of.
func (j *judge) step(s symbol, p lex.Piece) api.Errno {
	switch s.name {
	case "tests", "threads", "question", "END":
		return j.outer(s, p)
	case "block", "stmts", "else?":
		return j.block(s, p)
	case "expr", "ask", "inner", "rest", "part", "innerask", "restask", "partask":
		return j.expr(s, p)
	case "num":
		return j.kind(p.Kind == lex.Num)
	case "loc":
		return j.word(p, len(p.Text) == 1 && p.Text != "r")
	case "reg":
		return j.word(p, slices.Contains(strings.Fields("r0 r1 r2 r3 r4 r5 r6 r7"), p.Text))
	case "mode":
		return j.word(p, slices.Contains(strings.Fields([]string{"pln rlx acq", "pln rlx rel", "rlx acq rel ar", "acq rel ar sc"}[s.n]), p.Text))
	}
	return j.kind(p.Text == s.name)
}

// kind takes the piece at hand, if it is right.
func (j *judge) kind(right bool) api.Errno {
	if !right {
		return api.ErrForm
	}
	j.i++
	return api.OK
}

// word takes a word, if it is such a one.
func (j *judge) word(p lex.Piece, right bool) api.Errno {
	if p.Kind == lex.Word && !right {
		return api.ErrName
	}
	return j.kind(p.Kind == lex.Word)
}

func (j *judge) outer(s symbol, p lex.Piece) api.Errno {
	switch {
	case s.name == "END":
		return j.kind(p.Kind == lex.End)
	case s.name == "tests" && p.Text == "init":
		j.i++
		j.push(append(letters("loc = num ;"), s)...)
	case s.name == "tests":
		j.push(symbol{"threads", 0})
	case s.name == "threads" && p.Text == "thread":
		if s.n >= 4 {
			return api.ErrLimit
		}
		j.i++
		j.push(symbol{"block", 1}, symbol{"threads", s.n + 1})
	case s.name == "threads":
		j.push(symbol{name: "question"})
	default:
		j.push(letters("ask ; END")...)
		return j.word(p, p.Text == "exists" || p.Text == "forall")
	}
	return api.OK
}

func (j *judge) block(s symbol, p lex.Piece) api.Errno {
	switch {
	case s.name == "block":
		if p.Text == "{" && s.n > 8 {
			return api.ErrLimit
		}
		j.push(symbol{"stmts", s.n})
		return j.kind(p.Text == "{")
	case s.name == "else?" && p.Text == "else":
		j.i++
		j.push(symbol{"block", s.n})
	case s.name == "else?":
	case p.Text == "}":
		j.i++
	default:
		j.push(s)
		return j.stmt(s.n, p)
	}
	return api.OK
}

func (j *judge) stmt(deep int, p lex.Piece) api.Errno {
	inner := symbol{"block", deep + 1}
	switch p.Text {
	case "if":
		j.push(append(letters("if ( expr )"), inner, symbol{"else?", deep + 1})...)
	case "while":
		j.push(append(letters("while ( expr )"), inner)...)
	case "store":
		j.push(slices.Concat(letters("store ( loc , expr ,"), []symbol{{"mode", 1}}, letters(") ;"))...)
	case "fence":
		j.push(slices.Concat(letters("fence ("), []symbol{{"mode", 3}}, letters(") ;"))...)
	default:
		if next := j.pieces[min(j.i+1, len(j.pieces)-1)]; next.Text == "=" {
			j.push(slices.Concat(letters("reg ="), rightSide(j.pieces[j.i+2].Text), letters(";"))...)
		} else {
			j.push(letters("reg =")...)
		}
	}
	return api.OK
}

// rightSide is what is wanted behind =, by the letters that stand there.
func rightSide(text string) []symbol {
	mode := symbol{"mode", 2}
	switch text {
	case "load":
		return slices.Concat(letters("load ( loc ,"), []symbol{{"mode", 0}}, letters(")"))
	case "swap", "add":
		return slices.Concat(letters(text+" ( loc , expr ,"), []symbol{mode}, letters(")"))
	case "cas":
		return slices.Concat(letters("cas ( loc , expr , expr ,"), []symbol{mode}, letters(")"))
	}
	return letters("expr")
}

func (j *judge) expr(s symbol, p lex.Piece) api.Errno {
	where := strings.TrimLeft(s.name, "exprinstapt") // in the question: k, of ask
	named := func(name string, open int) symbol {
		if where != "" {
			name += "ask"
		}
		return symbol{name, open}
	}
	switch s.name {
	case "expr", "ask":
		j.push(named("inner", 0), symbol{"deep?", j.i})
	case "inner", "innerask":
		j.push(named("part", s.n), named("rest", s.n))
	case "rest", "restask":
		if strengthOf(p.Text) > 0 {
			j.i++
			j.push(named("part", s.n), s)
		}
	default:
		if strings.Contains("-!(", p.Text) && p.Kind == lex.Sign {
			if s.n == 12 {
				return api.ErrLimit
			}
			j.i++
			if p.Text == "(" {
				j.push(named("inner", s.n+1), symbol{name: ")"})
			} else {
				j.push(named("part", s.n+1))
			}
			return api.OK
		}
		return j.leaf(where != "", p)
	}
	return api.OK
}

func (j *judge) leaf(ask bool, p lex.Piece) api.Errno {
	switch {
	case p.Kind == lex.Num && ask && j.pieces[j.i+1].Text == ":":
		if p.N > 3 {
			return api.ErrName
		}
		j.push(letters("num : reg")...)
	case p.Kind == lex.Num:
		j.push(letters("num")...)
	case ask:
		j.push(letters("loc")...)
	default:
		j.push(letters("reg")...)
	}
	return api.OK
}

// strengthOf is that of a sign of two sides; of others 0.
func strengthOf(sign string) int {
	for i, row := range []string{"", "== != < <=", "+ - | ^", "* / % &"} {
		if slices.Contains(strings.Fields(row), sign) {
			return i
		}
	}
	return 0
}

// shapeOf is how deep an expression is that has no fault: by its weakest sign of two sides, the last of these, that stands in no parentheses.
func shapeOf(l []lex.Piece) int {
	at, least, level := 0, 9, 0
	for i, p := range l {
		switch p.Text {
		case "(":
			level++
		case ")":
			level--
		}
		if s := strengthOf(p.Text); i > 0 && s > 0 && s <= least && level == 0 && endsPart(l[i-1]) {
			at, least = i, s
		}
	}
	switch {
	case at > 0:
		return 1 + max(shapeOf(l[:at]), shapeOf(l[at+1:]))
	case l[0].Text == "-" || l[0].Text == "!":
		return 1 + shapeOf(l[1:])
	case l[0].Text == "(":
		return shapeOf(l[1 : len(l)-1])
	}
	return 1
}

func endsPart(p lex.Piece) bool { return p.Kind != lex.Sign || p.Text == ")" }

// isJudged holds what a text comes to against the judge, and tells the error.
func isJudged(t *testing.T, text string) api.Errno {
	t.Helper()
	test, at, err := parse.Parse(text)
	pieces, wantAt, want := lex.Lex(text)
	if want == api.OK {
		wantAt, want = (&judge{pieces: pieces}).first()
	}
	if err != want || at != wantAt {
		t.Fatalf("%s: %v at %v, not %v at %v", text, err, at, want, wantAt)
	}
	if err != api.OK && !reflect.DeepEqual(test, prog.Test{}) {
		t.Fatalf("%s: a test beside %v", text, err)
	}
	if err == api.OK {
		isWrittenAsItself(t, test)
	}
	return err
}

// words are letters of all pieces that play a part, the more frequent ones more than once.
func words() []string {
	return strings.Fields("init thread exists forall if else while load store swap add cas fence pln rlx acq rel ar sc r0 r7 r8 r x y xy 0 1 3 4 7 " +
		"== != <= < = ! + - | ^ * / % & ( ) { } , ; : ( ) ; ; , { } r1 1 x thread")
}

// spoil changes letters at one place.
func (c chance) spoil(l []string) []string {
	all := words()
	w := all[c.Intn(len(all))]
	i := c.Intn(len(l) + 1)
	switch k := min(i+1, len(l)); c.Intn(6) {
	case 0:
		return slices.Concat(l[:i], l[k:])
	case 1:
		return slices.Concat(l[:i], []string{w}, l[i:])
	case 2:
		return slices.Concat(l[:i], []string{w}, l[k:])
	case 3:
		return slices.Clone(l[:i])
	case 4:
		from := c.Intn(len(l) + 1)
		return slices.Concat(l[:i], l[from:min(len(l), from+c.Intn(5))], l[i:])
	}
	return slices.Concat(l[:i], slices.Repeat([]string{[]string{"(", "-", "!", "1 +", "if ( 1 ) {", "while ( 1 ) {", "thread { }"}[c.Intn(7)]}, c.Intn(14)), l[i:])
}

// P5.1: tests that are spoilt at a place or two have their first fault where it is.
func TestSpoilt(t *testing.T) {
	c := chance{rand.New(rand.NewSource(2))}
	count := map[api.Errno]int{}
	for range 15000 {
		text := c.test().Text()
		if len(text) > 600 { // shorter ones are told sooner, and show as much
			continue
		}
		l := lettersOf(t, text)
		for range 1 + c.Intn(2) {
			l = c.spoil(l)
		}
		count[isJudged(t, strings.Join(l, " "))]++
		isJudged(t, c.spread(l))
	}
	for _, err := range []api.Errno{api.OK, api.ErrForm, api.ErrName, api.ErrLimit} {
		if count[err] < 100 {
			t.Errorf("%v only %d times", err, count[err])
		}
	}
}

// narrow are the letters of an expression of about this depth: of two parts one at the most is more than a leaf.
func (c chance) narrow(depth int, inThread bool) []string {
	leaf := strings.Fields(strings.ReplaceAll(c.leaf(inThread).Text(), ":", " : "))
	if depth <= 1 {
		return leaf
	}
	part := c.narrow(depth-1, inThread)
	if c.Intn(3) == 0 {
		part = slices.Concat([]string{"("}, part, []string{")"})
	}
	sign := strings.Fields("== != < <= + - | ^ * / % & + - * & ! -")[c.Intn(18)]
	switch c.Intn(5) {
	case 0:
		return slices.Concat([]string{strings.Fields("! -")[c.Intn(2)]}, part)
	case 1:
		if sign != "!" {
			return slices.Concat(leaf, []string{sign}, part)
		}
	}
	if sign != "!" {
		return slices.Concat(part, []string{sign}, leaf)
	}
	return slices.Concat([]string{sign}, part)
}

// P5.1: expressions by chance, deep ones too, and spoilt ones.
func TestSpoiltExpressions(t *testing.T) {
	c := chance{rand.New(rand.NewSource(3))}
	count := map[api.Errno]int{}
	for range 8000 {
		var l []string
		for range 1 + c.Intn(40) {
			l = append(l, strings.Fields("( ( ( - ! 1 1 + 1 * 1 == 1 ) ) ) x r1 0 : r1 - 1")[c.Intn(22)])
		}
		if c.Intn(2) == 0 {
			l = c.narrow(9+c.Intn(6), c.Intn(8) == 0)
		}
		if c.Intn(2) == 0 {
			l = c.spoil(l)
		}
		e := strings.Join(l, " ")
		count[isJudged(t, "exists "+e+";")]++
		isJudged(t, "thread { r0 = "+e+"; } exists 1;")
		isJudged(t, "thread { if ("+e+") { r0 = cas(x, "+e+", 1, ar); } } exists 1;")
	}
	for _, err := range []api.Errno{api.OK, api.ErrForm, api.ErrName, api.ErrLimit} {
		if count[err] < 100 {
			t.Errorf("%v only %d times", err, count[err])
		}
	}
}

// P5.1: all short rows of pieces where a test, a statement, an expression begins.
func TestShortRows(t *testing.T) {
	all := words()
	slices.Sort(all)
	all = slices.Compact(all)
	for _, a := range append(all, "") {
		for _, b := range append(all, "") {
			row := a + " " + b
			isJudged(t, row)
			isJudged(t, "thread { "+row)
			isJudged(t, "thread { } "+row+" ;")
			isJudged(t, "exists "+row+" ;")
			isJudged(t, "thread { r0 = "+row+" ; } exists 1;")
			isJudged(t, "thread { if (1) { } "+row+" } exists 1;")
			isJudged(t, "thread { store(x, 1, "+row+" ); } exists 1;")
			isJudged(t, "init "+row+" 1; exists 1;")
		}
	}
}

// P5.1, R1: any bytes.
func TestAnyBytes(t *testing.T) {
	c := chance{rand.New(rand.NewSource(4))}
	for range 3000 {
		b := make([]byte, c.Intn(30))
		for i := range b {
			b[i] = byte(c.Intn(256))
		}
		isJudged(t, string(b))
		isJudged(t, "thread { r0 = "+string(b))
		isJudged(t, "exists 1; #"+string(b))
	}
}
