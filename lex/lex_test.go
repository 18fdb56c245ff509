package lex_test

import (
	"math"
	"math/big"
	"math/rand"
	"regexp"
	"slices"
	"strings"
	"testing"

	"troth/api"
	"troth/lex"
)

// shape is what the chapter says of a text's pieces, as patterns: of those that match where a piece begins, the longer sign stands first.
var shape = regexp.MustCompile(`^(?:([ \t\n]|#[^\n]*)|([0-9]+)|([a-z][a-z0-9]*)|(==|!=|<=|[-=!<+|^*/%&(){},;:]))`)

// expected are a text's pieces by the patterns, numbers read without bounds, and places counted from the text's start each time.
func expected(text string) ([]lex.Piece, api.Place, api.Errno) {
	if len(text) > api.MaxText {
		return nil, api.Place{Line: 1, Col: 1}, api.ErrLimit
	}
	var l []lex.Piece
	i := 0
	for i < len(text) {
		m := shape.FindStringSubmatch(text[i:])
		if m == nil {
			return nil, placeOf(text, i), api.ErrForm
		}
		p := lex.Piece{Text: m[0], At: placeOf(text, i)}
		switch {
		case m[2] != "":
			n, _ := new(big.Int).SetString(m[2], 10)
			if !n.IsUint64() {
				return nil, p.At, api.ErrLimit
			}
			p.Kind, p.N = lex.Num, n.Uint64()
		case m[3] != "":
			p.Kind = lex.Word
		case m[4] != "":
			p.Kind = lex.Sign
		}
		if m[1] == "" {
			l = append(l, p)
		}
		i += len(m[0])
	}
	return append(l, lex.Piece{Kind: lex.End, At: placeOf(text, i)}), api.Place{}, api.OK
}

func placeOf(text string, i int) api.Place {
	before := text[:i]
	return api.Place{Line: 1 + strings.Count(before, "\n"), Col: i - strings.LastIndex(before, "\n")}
}

func isAsExpected(t *testing.T, text string) {
	t.Helper()
	l, at, err := lex.Lex(text)
	wl, wat, werr := expected(text)
	if !slices.Equal(l, wl) || at != wat || err != werr {
		t.Errorf("%q: %v, %v, %v: it should be %v, %v, %v", text, l, at, err, wl, wat, werr)
	}
}

// are tells whether a text's pieces have these letters; the last one is End, which has none.
func are(t *testing.T, text string, letters ...string) {
	t.Helper()
	l, at, err := lex.Lex(text)
	if err != api.OK || at != (api.Place{}) || len(l) != len(letters)+1 {
		t.Fatalf("%q: %v, %v, %v", text, l, at, err)
	}
	for i, s := range append(slices.Clone(letters), "") {
		if l[i].Text != s || (l[i].Kind == lex.End) != (i == len(letters)) {
			t.Errorf("%q: piece %d is %v, not %q", text, i, l[i], s)
		}
	}
}

func fails(t *testing.T, text string, line, col int, want api.Errno) {
	t.Helper()
	l, at, err := lex.Lex(text)
	if len(l) != 0 || at != (api.Place{Line: line, Col: col}) || err != want {
		t.Errorf("%.40q: %v, %v, %v: it should be %v at %d, %d", text, l, at, err, want, line, col)
	}
}

// P2.1, as the chapter's examples show it.
func TestExamples(t *testing.T) {
	are(t, "r0=load(x,acq);", "r0", "=", "load", "(", "x", ",", "acq", ")", ";")
	are(t, "<== # no", "<=", "=")
	fails(t, "18446744073709551616", 1, 1, api.ErrLimit)
}

// P2.1: a piece has its kind, its letters, its number if it is one, and its place.
func TestPieces(t *testing.T) {
	l, at, err := lex.Lex("x9 = 0042;\n\tb2b")
	want := []lex.Piece{
		{Kind: lex.Word, Text: "x9", At: api.Place{Line: 1, Col: 1}},
		{Kind: lex.Sign, Text: "=", At: api.Place{Line: 1, Col: 4}},
		{Kind: lex.Num, Text: "0042", N: 42, At: api.Place{Line: 1, Col: 6}},
		{Kind: lex.Sign, Text: ";", At: api.Place{Line: 1, Col: 10}},
		{Kind: lex.Word, Text: "b2b", At: api.Place{Line: 2, Col: 2}},
		{Kind: lex.End, At: api.Place{Line: 2, Col: 5}},
	}
	if !slices.Equal(l, want) || at != (api.Place{}) || err != api.OK {
		t.Errorf("%v, %v, %v", l, at, err)
	}
	if lex.End != 0 || lex.Num != 1 || lex.Word != 2 || lex.Sign != 3 {
		t.Error("kinds")
	}
}

// P2.1: of a text without pieces there is End alone, where the text ends.
func TestNoPieces(t *testing.T) {
	for _, text := range []string{"", " ", "\t", "\n", " \t ", "\n\n", "#", "# no", "# no\n", "#\n#", "  # \xff\x00é ABC $ 99999999999999999999999", "\n \t# a # b\n\t"} {
		l, at, err := lex.Lex(text)
		end := lex.Piece{Kind: lex.End, At: placeOf(text, len(text))}
		if len(l) != 1 || l[0] != end || at != (api.Place{}) || err != api.OK {
			t.Errorf("%q: %v, %v, %v: it should be %v", text, l, at, err, end)
		}
	}
}

// P2.1: what each byte is by itself, in front of a piece, behind one, and in a remark.
func TestBytes(t *testing.T) {
	for b := range 256 {
		s := string([]byte{byte(b)})
		for _, text := range []string{s, s + "a", "a" + s, "a" + s + "b", "1" + s, s + "1", s + "=", "=" + s, "\n " + s, s + s, s + s + s} {
			isAsExpected(t, text)
		}
		if text := "# " + s + " b\nc"; b != '\n' {
			are(t, text, "c")
		}
	}
}

// P2.1: of two signs that begin alike the longer one.
func TestSigns(t *testing.T) {
	are(t, "== != <= < = ! + - | ^ * / % & ( ) { } , ; :", strings.Fields("== != <= < = ! + - | ^ * / % & ( ) { } , ; :")...)
	are(t, "==!=<=<=!+-|^*/%&(){},;:", strings.Fields("== != <= <= ! + - | ^ * / % & ( ) { } , ; :")...)
	are(t, "=== !== <== ====", "==", "=", "!=", "=", "<=", "=", "==", "==")
	are(t, "= = ! = < =", "=", "=", "!", "=", "<", "=")
	are(t, "=!<=", "=", "!", "<=")
	are(t, "+=-=&&||:=!!<<", "+", "=", "-", "=", "&", "&", "|", "|", ":", "=", "!", "!", "<", "<")
	are(t, "=\n=#\n=", "=", "=", "=")
	are(t, "-1", "-", "1")
	fails(t, "a >= b", 1, 3, api.ErrForm)
}

// P2.1: signs, words and numbers end where something else begins, without a blank too.
func TestNeighbours(t *testing.T) {
	are(t, "12ab3", "12", "ab3")
	are(t, "ab3 12", "ab3", "12")
	are(t, "a1b2c3(4d", "a1b2c3", "(", "4", "d")
	are(t, "a#b\nc#d", "a", "c")
	are(t, "1#2\n3", "1", "3")
	fails(t, "aB", 1, 2, api.ErrForm)
	fails(t, "a_b", 1, 2, api.ErrForm)
	fails(t, "1.5", 1, 2, api.ErrForm)
	fails(t, "a\r\n", 1, 2, api.ErrForm)
	fails(t, "\x00", 1, 1, api.ErrForm)
	fails(t, "é", 1, 1, api.ErrForm)
	fails(t, "# é\né", 2, 1, api.ErrForm)
}

// P2.1: the greatest number, and one more; noughts in front count for nothing.
func TestNumbers(t *testing.T) {
	for _, n := range []struct {
		text string
		n    uint64
	}{{"0", 0}, {"00", 0}, {"9", 9}, {"10", 10}, {"18446744073709551609", math.MaxUint64 - 6}, {"18446744073709551615", math.MaxUint64}, {strings.Repeat("0", 300) + "18446744073709551615", math.MaxUint64}, {"9999999999999999999", 9999999999999999999}, {strings.Repeat("0", api.MaxText), 0}, {strings.Repeat("0", api.MaxText-1) + "7", 7}} {
		l, at, err := lex.Lex(n.text)
		if err != api.OK || at != (api.Place{}) || len(l) != 2 || l[0] != (lex.Piece{Kind: lex.Num, Text: n.text, N: n.n, At: api.Place{Line: 1, Col: 1}}) {
			t.Errorf("%.40q: %v, %v, %v", n.text, l, at, err)
		}
	}
	for _, text := range []string{"18446744073709551616", "18446744073709551619", "18446744073709551620", "18446744073709551625", "18446744073709551700", "20000000000000000000", "36893488147419103231", "36893488147419103232", "99999999999999999999", "184467440737095516150", "100000000000000000000", "0018446744073709551616", strings.Repeat("9", api.MaxText), "340282366920938463463374607431768211456"} {
		fails(t, text, 1, 1, api.ErrLimit)
	}
	fails(t, "a1 = (18446744073709551616a", 1, 7, api.ErrLimit)
	fails(t, "a\n\t 18446744073709551616", 2, 3, api.ErrLimit)
	isAsExpected(t, "a18446744073709551616") // in a word they are no number
}

// P2.1: a text as long as may be, and one byte more.
func TestLength(t *testing.T) {
	for _, unit := range []string{"a", " ", "1", "=", "a ", "x\n", "#", "\n"} {
		most := strings.Repeat(unit, api.MaxText/len(unit))
		isAsExpected(t, most)
		isAsExpected(t, most[1:])
		fails(t, most+" ", 1, 1, api.ErrLimit)
		fails(t, most+most, 1, 1, api.ErrLimit)
	}
	isAsExpected(t, "# "+strings.Repeat("é", api.MaxText/2-1)) // bytes count, not letters
	fails(t, "#"+strings.Repeat("é", api.MaxText/2), 1, 1, api.ErrLimit)
	if l, _, _ := lex.Lex(strings.Repeat("=", api.MaxText)); len(l) != api.MaxText/2+1 {
		t.Errorf("%d pieces", len(l))
	}
	if l, _, _ := lex.Lex(strings.Repeat("(", api.MaxText)); len(l) != api.MaxText+1 {
		t.Errorf("%d pieces", len(l))
	}
}

// P2.1: of several faults a text that is too long is told first; of the others the one that stands first.
func TestFirstFault(t *testing.T) {
	const great = "18446744073709551616"
	fails(t, "\n\n$"+strings.Repeat(" ", api.MaxText), 1, 1, api.ErrLimit)
	fails(t, " $ "+great, 1, 2, api.ErrForm)
	fails(t, " "+great+" $", 1, 2, api.ErrLimit)
	fails(t, " "+great+"$", 1, 2, api.ErrLimit)
	fails(t, "a\n$\n$", 2, 1, api.ErrForm)
	fails(t, "a\n"+great+" "+great, 2, 1, api.ErrLimit)
	fails(t, "#$\n"+great, 2, 1, api.ErrLimit)
	fails(t, "#"+great+"\n\t$", 2, 2, api.ErrForm)
}

// between is what may stand between two pieces.
func between(r *rand.Rand) string {
	var b strings.Builder
	for range 1 + r.Intn(3) {
		b.WriteString([]string{" ", "\t", "\n", "  ", "#\n", "# x = 1; é\x00\n", " ##\t#\n\n"}[r.Intn(7)])
	}
	return b.String()
}

// P2.2: pieces written one behind the other are told as themselves, whatever stands between, each at its place.
func TestWrittenAndTold(t *testing.T) {
	r := rand.New(rand.NewSource(1))
	kinds := []string{"0", "7", "18446744073709551615", "x", "r0", "load", "z9z", "=", "==", "!", "!=", "<", "<=", "-", "(", "}", ":", "&"}
	for range 2000 {
		var letters []string
		var places []api.Place
		text := ""
		for range r.Intn(20) {
			text += between(r)
			places = append(places, placeOf(text, len(text)))
			letters = append(letters, kinds[r.Intn(len(kinds))])
			text += letters[len(letters)-1]
		}
		are(t, strings.Join(letters, " "), letters...)
		are(t, text, letters...)
		l, _, _ := lex.Lex(text)
		for i, at := range places {
			if l[i].At != at {
				t.Fatalf("%q: piece %d stands at %v, not %v", text, i, l[i].At, at)
			}
		}
		if at := placeOf(text, len(text)); l[len(places)].At != at {
			t.Fatalf("%q: it ends at %v, not %v", text, l[len(places)].At, at)
		}
	}
}

// P2.2: what stands between pieces plays no part but in places: any text, against the patterns.
func TestAnyText(t *testing.T) {
	r := rand.New(rand.NewSource(2))
	units := []string{"0", "1", "9", "18446744073709551615", "a", "z", "r0", "=", "!", "<", "+", "(", ";", " ", " ", "\t", "\n", "\n", "#", "$"}
	for i := range 20000 {
		text := ""
		for range r.Intn(12) {
			n := len(units)
			if i%2 == 0 {
				n-- // half of them without a byte that begins no piece
			}
			text += units[r.Intn(n)]
		}
		isAsExpected(t, text)
	}
}

// R2, R3: a caller that writes to an answer changes no later one.
func TestAnswersAreNew(t *testing.T) {
	const text = "a = 1;"
	first, _, _ := lex.Lex(text)
	want := slices.Clone(first)
	clear(first[:cap(first)])
	if l, _, _ := lex.Lex(text); !slices.Equal(l, want) {
		t.Errorf("%v, not %v", l, want)
	}
}
