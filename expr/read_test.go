package expr_test

import (
	"math"
	"math/rand"
	"slices"
	"strings"
	"testing"

	"chordmail/api"
	"chordmail/expr"
	"chordmail/lex"
)

func wantRead(t *testing.T, l []lex.Token, from, place int, nodes ...api.Node) {
	t.Helper()
	e, at, fault := expr.Read(l, from)
	if fault != api.OK || at != place || !same(e.Nodes, nodes) {
		t.Errorf("Read of %v (%d) from %d: %v, %d, %v; want %v, %d", l[:min(len(l), 9)], len(l), from, e.Nodes, at, fault, nodes, place)
	}
}

func wantReadFault(t *testing.T, l []lex.Token, from, place int, wanted api.Errno) {
	t.Helper()
	e, at, fault := expr.Read(l, from)
	if fault != wanted || at != place || len(e.Nodes) != 0 {
		t.Errorf("Read of %v (%d) from %d: %d nodes, %d, %v; want %d, %v", l[:min(len(l), 9)], len(l), from, len(e.Nodes), at, fault, place, wanted)
	}
}

func mark(s string) lex.Token { return lex.Token{Kind: lex.Mark, Text: s, Size: len(s)} }

func word(s string) lex.Token { return lex.Token{Kind: lex.Name, Text: s, Size: len(s)} }

// P5.1: the chapter's example.
func TestReadExamples(t *testing.T) {
	l := tokensOf(t, "f (a + 1) , b")
	wantRead(t, l, 1, 6, called("a"), whole(1), two(api.NodeAdd, 0, 1))
	wantRead(t, l, 0, 1, called("f"))
	wantReadFault(t, l, 6, 6, api.ErrExpr)
	wantRead(t, l, 2, 5, called("a"), whole(1), two(api.NodeAdd, 0, 1))
	wantRead(t, l, 4, 5, whole(1))
	wantRead(t, l, 7, 8, called("b"))
	wantReadFault(t, l, 3, 3, api.ErrExpr)
	wantReadFault(t, l, 5, 5, api.ErrExpr)
}

// P5.1: where to read from.
func TestReadFrom(t *testing.T) {
	l := tokensOf(t, "a + b")
	for _, from := range []int{-1, -3, math.MinInt, 4, 5, math.MaxInt} {
		wantReadFault(t, l, from, 0, api.ErrArg)
	}
	wantReadFault(t, l, 3, 3, api.ErrExpr)
	wantRead(t, l, 2, 3, called("b"))
	wantReadFault(t, l[:2], 0, 2, api.ErrExpr)
	wantRead(t, l[:1], 0, 1, called("a"))
	for _, none := range [][]lex.Token{nil, {}} {
		wantReadFault(t, none, 0, 0, api.ErrExpr)
		wantReadFault(t, none, 1, 0, api.ErrArg)
		wantReadFault(t, none, -1, 0, api.ErrArg)
	}
}

// P5.1: how far it goes: a token that could go on, but has nothing behind it, is no end.
func TestReadAsFar(t *testing.T) {
	for _, c := range []struct {
		text  string
		place int
		wrong bool
	}{
		{"a ) b", 1, false}, {"a , b", 1, false}, {"a ; b", 1, false}, {"a { b", 1, false}, {"a b", 1, false}, {"a 1", 1, false}, {"a (b)", 1, false}, {"a !b", 1, false}, {"a re(b)", 1, false}, {"a true", 1, false}, {`a "b"`, 1, false}, {"a -> b", 1, false}, {"a = b", 1, false}, {"a & b", 1, false}, {"a . b", 1, false},
		{"a < b < c", 3, false}, {"a + b == c * d != e", 7, false}, {"re(a) (b)", 4, false}, {"(a) (b)", 3, false}, {"-a -> b", 2, false},
		{"a + ) b", 2, true}, {"a + , b", 2, true}, {"a - ; b", 2, true}, {"a < < b", 2, true}, {"a < + b", 2, true}, {"a && || b", 2, true}, {"a * / b", 2, true}, {"- )", 1, true}, {"! ! ,", 2, true},
		{"( a , b )", 2, true}, {"( a < b < c )", 4, true}, {"( )", 1, true}, {"( a ; )", 2, true}, {"re ( a , b )", 3, true}, {"re , a", 1, true}, {"at ( a ) , b", 3, true}, {"at ( a , b , c )", 5, true}, {"at ( a , )", 4, true}, {"a + re", 3, true}, {"a + re + b", 3, true}, {"a + ( b", 4, true},
	} {
		l := tokensOf(t, c.text)
		if c.wrong {
			wantReadFault(t, l, 0, c.place, api.ErrExpr)
			continue
		}
		wantRead(t, l, 0, c.place, parsed(t, joined(l[:c.place])).Nodes...)
	}
}

// joined is the text of names, marks and ints.
func joined(l []lex.Token) string {
	var pieces []string
	for _, x := range l {
		pieces = append(pieces, x.Text)
	}
	return strings.Join(pieces, " ")
}

// nowhere are tokens that layer 1 tells of no text, and those that it tells but no expression has.
func nowhere() []lex.Token {
	l := []lex.Token{
		{}, {Kind: 6, Text: "a", Int: 1}, {Kind: -1, Text: "("}, {Kind: math.MaxInt, Text: "+"}, {Kind: math.MinInt, Int: 7, Real: 1, Text: "a"},
		{Kind: lex.Int, Int: -1}, {Kind: lex.Int, Int: math.MinInt64},
		{Kind: lex.Text, Text: strings.Repeat("a", 257)}, {Kind: lex.Text, Text: strings.Repeat("\x00", 40000)},
	}
	for _, f := range []float64{math.Copysign(0, -1), -1, -math.SmallestNonzeroFloat64, -math.MaxFloat64, math.Inf(1), math.Inf(-1), math.NaN(), math.Copysign(math.NaN(), -1)} {
		l = append(l, lex.Token{Kind: lex.Real, Real: f})
	}
	for _, s := range []string{"", "1", "_", "_a", "1a", "a b", "a ", " a", "a+", "(", ")", "-", "a\n", "a#", "\xc3\xa4", "a\xc3", "a\x00", "a.b", "@", "[", "`", "{a", "a@", "a[", "a/", "a:", "true ", strings.Repeat("n", 33), strings.Repeat("n", 40000)} {
		l = append(l, word(s))
	}
	for _, s := range []string{"", "a", "1", "re", "true", "++", "--", "|", "&", "=", "=>", "===", "( ", " (", "((", ",,", "-a", "->", "_", "{", "}", ";", ":", ".", "&&&", "+\x00", "\"", "!!"} {
		l = append(l, mark(s))
	}
	return l
}

// P5.1: what can stand nowhere can neither go on behind an expression nor stand in any of its places.
func TestReadNowhere(t *testing.T) {
	a, plus := word("a"), mark("+")
	for _, x := range nowhere() {
		wantReadFault(t, []lex.Token{x}, 0, 0, api.ErrExpr)
		wantReadFault(t, []lex.Token{x, a}, 0, 0, api.ErrExpr)
		wantRead(t, []lex.Token{a, x, a}, 0, 1, called("a"))
		wantReadFault(t, []lex.Token{a, plus, x}, 0, 2, api.ErrExpr)
		wantReadFault(t, []lex.Token{mark("-"), x, a}, 0, 1, api.ErrExpr)
		wantReadFault(t, []lex.Token{mark("("), x}, 0, 1, api.ErrExpr)
		wantReadFault(t, []lex.Token{mark("("), a, x}, 0, 2, api.ErrExpr)
		wantReadFault(t, []lex.Token{word("re"), x, a, mark(")")}, 0, 1, api.ErrExpr)
		wantReadFault(t, []lex.Token{word("at"), mark("("), a, x, a, mark(")")}, 0, 3, api.ErrExpr)
		wantReadFault(t, []lex.Token{word("at"), mark("("), a, mark(","), a, x}, 0, 5, api.ErrExpr)
		wantRead(t, []lex.Token{mark("("), a, mark(")"), x}, 0, 3, called("a"))
	}
}

// P5.1: a token is what its kind names, whatever its other fields say, and wherever it says that it stands.
func TestReadOtherFields(t *testing.T) {
	odd := func(x lex.Token, k int) lex.Token {
		y := lex.Token{Kind: x.Kind, Text: "+", Int: -9, Real: math.NaN(), At: []int{-5, math.MinInt, math.MaxInt}[k%3], Size: []int{-1, 0, math.MaxInt}[k%3]}
		switch x.Kind {
		case lex.Int:
			y.Int = x.Int
		case lex.Real:
			y.Real = x.Real
		default:
			y.Text = x.Text
		}
		return y
	}
	for _, text := range []string{"1 + 1p1", "a", "1", "1p0", `"x"`, "true", `comp(1p1, re(x)) == (y) && "" < "+" || 5p-3 != -7`} {
		l := tokensOf(t, text)
		for k := range l {
			l[k] = odd(l[k], k)
		}
		wantRead(t, l, 0, len(l), parsed(t, text).Nodes...)
	}
}

// P5.1: the edges of MaxNodes; brackets make no node.
func TestReadNodes(t *testing.T) {
	for _, c := range []struct {
		text  string
		nodes int
	}{
		{"x" + strings.Repeat(" + x", 31), 63},
		{"-x" + strings.Repeat(" + x", 31), 64},
		{"x" + strings.Repeat(" + x", 32), 65},
		{strings.Repeat("(", 70) + "-x" + strings.Repeat(" + (x)", 31) + strings.Repeat(")", 70), 64},
		{"re(-x)" + strings.Repeat(" + x", 31), 65},
		{"(x)" + strings.Repeat(" < x && x", 2000), 8001},
		{"at(x, 1)" + strings.Repeat(" + at(x, 1)", 15), 63},
		{"-at(x, 1)" + strings.Repeat(" + at(x, 1)", 15), 64},
		{"!-at(x, 1)" + strings.Repeat(" + at(x, 1)", 15), 65},
	} {
		l := append([]lex.Token{mark(";"), mark("(")}, tokensOf(t, c.text)...)
		x, n := referenceTree(l[2:min(len(l), 400)])
		if c.nodes > 64 {
			wantReadFault(t, l, 2, 2, api.ErrNodes)
			wantFault(t, " "+c.text, 1, api.ErrNodes)
			continue
		}
		if x == nil || n != len(l)-2 || len(x.flat()) != c.nodes {
			t.Fatalf("the reference of %.40q: %d tokens; want %d nodes", c.text, n, c.nodes)
		}
		wantDeepOr(t, l, 2, c.text, x)
	}
	// A tree that is broad, and as full as may be.
	full := "x"
	for range 5 {
		full = "(" + full + ") + (" + full + ")"
	}
	e := parsed(t, "-("+full+")")
	if len(e.Nodes) != 64 {
		t.Errorf("the full tree: %d nodes", len(e.Nodes))
	}
	wantFault(t, "!-("+full+")", 0, api.ErrNodes)
	wantFault(t, "("+full+") < ("+full+")", 0, api.ErrNodes)
}

// wantDeepOr holds a reading against a tree of at most MaxNodes nodes, which may be too deep.
func wantDeepOr(t *testing.T, l []lex.Token, from int, text string, x *tree) {
	t.Helper()
	if x.depth() > 12 {
		wantReadFault(t, l, from, from, api.ErrDepth)
		return
	}
	wantRead(t, l, from, len(l), x.flat()...)
	wantParse(t, text, x.flat()...)
}

// P5.1: the edges of MaxDepth, by signs, words and operators on either side; brackets are not deep.
func TestReadDepth(t *testing.T) {
	nest := func(n int, ahead, behind string) string {
		return strings.Repeat(ahead, n) + "x" + strings.Repeat(behind, n)
	}
	for _, c := range [][2]string{
		{"-", ""}, {"!", ""}, {"- (", ")"}, {"re(", ")"}, {"str(", ")"}, {"at(", ", y)"}, {"at(y, ", ")"}, {"comp((", "), 1)"},
		{"", " + y"}, {"", " && y"}, {"", " || y"}, {"", " * y"}, {"y - (", ")"}, {"y && (", ")"}, {"(", ") < y"}, {"y == (", ")"}, {"(", ") % y"},
	} {
		for _, n := range []int{10, 11} {
			text := nest(n, c[0], c[1])
			nodes, at, fault := referenceParse(text)
			if fault != api.OK || at != 0 {
				t.Fatalf("the reference of %q: %d, %v", text, at, fault)
			}
			wantParse(t, text, nodes...)
			wantRead(t, tokensOf(t, "a "+text), 1, len(tokensOf(t, text))+1, nodes...)
		}
		for _, n := range []int{12, 13, 20} {
			wantFault(t, "  "+nest(n, c[0], c[1]), 2, api.ErrDepth)
			wantReadFault(t, tokensOf(t, "a "+nest(n, c[0], c[1])), 1, 1, api.ErrDepth)
			wantReadFault(t, tokensOf(t, "a "+nest(n, c[0], c[1])+" ; b"), 1, 1, api.ErrDepth)
		}
	}
	wantParse(t, nest(16383, "(", ")"), called("x"))
	wantParse(t, nest(11, "(((-((", ")))))"), parsed(t, nest(11, "-", "")).Nodes...)
	wantFault(t, nest(12, "((-", "))"), 0, api.ErrDepth)
	wantFault(t, nest(11, "-", "")+" + y", 0, api.ErrDepth)
	wantFault(t, "y + "+nest(11, "!", ""), 0, api.ErrDepth)
}

// P5.1, P5.2: what is wrong in the text is told ahead of too many nodes, and these ahead of too great a depth, wherever they stand.
func TestReadFaultsInOrder(t *testing.T) {
	deep := strings.Repeat("-", 13) + "x"
	many := "x" + strings.Repeat(" && x", 32)
	wantFault(t, deep, 0, api.ErrDepth)
	wantFault(t, many, 0, api.ErrNodes)
	wantFault(t, deep+" || "+many, 0, api.ErrNodes)
	wantFault(t, many+" || "+deep, 0, api.ErrNodes)
	wantFault(t, strings.Repeat("!", 70)+"x", 0, api.ErrNodes)
	wantFault(t, ") "+many, 0, api.ErrExpr)
	wantFault(t, "x ) "+many, 2, api.ErrExpr)
	wantFault(t, "x + ) "+many, 4, api.ErrExpr)
	wantFault(t, many+" )", len(many)+1, api.ErrExpr)
	wantFault(t, many+" && ", len(many)+4, api.ErrExpr)
	wantFault(t, many+" x", len(many)+1, api.ErrExpr)
	wantFault(t, deep+" x", len(deep)+1, api.ErrExpr)
	wantFault(t, deep+" < y < z", len(deep)+5, api.ErrExpr)
	wantFault(t, "x y "+deep, 2, api.ErrExpr)
	wantFault(t, "("+deep, len(deep)+1, api.ErrExpr)
	wantFault(t, "("+many+" || "+deep, len(many)+len(deep)+5, api.ErrExpr)
	wantFault(t, "re("+deep+", "+many+")", len(deep)+3, api.ErrExpr)
	wantFault(t, strings.Repeat("-", 32768), 32768, api.ErrExpr)
	wantFault(t, strings.Repeat("(", 32768), 32768, api.ErrExpr)
	wantFault(t, strings.Repeat("re(", 10922), 32766, api.ErrExpr)
	wantFault(t, strings.Repeat("(", 16383)+"x"+strings.Repeat(")", 16384), 32767, api.ErrExpr)

	// Read stops ahead of what cannot go on: then the limits count alone.
	l := tokensOf(t, "; "+many+" )")
	wantReadFault(t, l, 1, 1, api.ErrNodes)
	l = tokensOf(t, "; "+deep+" x")
	wantReadFault(t, l, 1, 1, api.ErrDepth)
	l = tokensOf(t, "; "+deep+" || "+many+" ;")
	wantReadFault(t, l, 1, 1, api.ErrNodes)
	l = tokensOf(t, "; "+many+" && )")
	wantReadFault(t, l, 1, len(l)-1, api.ErrExpr)
	l = tokensOf(t, "; "+deep+" + ;")
	wantReadFault(t, l, 1, len(l)-1, api.ErrExpr)
}

// P5.1: as much nested as the document has it be.
func TestReadNested(t *testing.T) {
	const n = 1 << 16
	around := func(ahead []lex.Token) []lex.Token {
		l := slices.Repeat(ahead, n/len(ahead))
		l = append(l, word("x"))
		return append(l, slices.Repeat([]lex.Token{mark(")")}, n/len(ahead))...)
	}
	wantRead(t, around([]lex.Token{mark("(")}), 0, 2*n+1, called("x"))
	l := around([]lex.Token{mark("!"), word("re"), mark("("), mark("-")})
	for _, c := range []struct {
		l     []lex.Token
		place int
		fault api.Errno
	}{{l, 0, api.ErrNodes}, {l[:n], n, api.ErrExpr}, {l[:n+1], n + 1, api.ErrExpr}} {
		if e, at, fault := expr.Read(c.l, 0); len(e.Nodes) != 0 || at != c.place || fault != c.fault {
			t.Errorf("%d tokens, nested: %d nodes, %d, %v; want %d, %v", len(c.l), len(e.Nodes), at, fault, c.place, c.fault)
		}
	}
}

// someTokens are of each kind that the grammar tells apart.
func someTokens() []lex.Token {
	return []lex.Token{word("a"), {Kind: lex.Int, Int: 1, Size: 1}, word("re"), word("at"), mark("("), mark(")"), mark(","), mark("-"), mark("!"), mark("*"), mark("<"), mark("=="), mark("&&"), mark("||"), mark(";")}
}

// P5.1: all short lists of tokens, held against the reference.
func TestReadReference(t *testing.T) {
	alphabet := someTokens()
	lists := 0
	var visit func(c chart, l []lex.Token)
	visit = func(c chart, l []lex.Token) {
		for _, x := range alphabet {
			longer := append(l[:len(l):len(l)], x)
			next, ok := c.add(x)
			place := len(longer)
			expected := next
			if !ok { // what stands behind a token that cannot go on says nothing more
				place, expected = len(l), c
			}
			lists++
			if e := expected.done(); e != nil {
				wantRead(t, longer, 0, place, e.flat()...)
			} else {
				wantReadFault(t, longer, 0, place, api.ErrExpr)
			}
			if ok && len(longer) < 6 {
				visit(next, longer)
			}
			if t.Failed() {
				return
			}
		}
	}
	visit(newChart(), nil)
	if lists < 100000 {
		t.Errorf("just %d lists", lists)
	}
}

// drawnText is a text by the grammar, of about so many tokens, with brackets where none are needed, too.
func drawnText(draw *rand.Rand, size int) string {
	if size <= 1 {
		leaves := []string{"a", "b1", "self", "0", "12", "0p0", "3p-1", `"x"`, `"\x00"`, "true", "false"}
		return leaves[draw.Intn(len(leaves))]
	}
	left := 1 + draw.Intn(size)
	switch draw.Intn(8) {
	case 0:
		return []string{"-", "!"}[draw.Intn(2)] + drawnText(draw, size-1)
	case 1:
		return bracketed(drawnText(draw, size-1))
	case 2:
		return []string{"re", "im", "size2", "real", "len", "str"}[draw.Intn(6)] + bracketed(drawnText(draw, size-1))
	case 3:
		return []string{"comp", "at", "cat"}[draw.Intn(3)] + bracketed(drawnText(draw, left)+","+drawnText(draw, size-left))
	}
	between := []string{"||", "&&", "&&", "==", "!=", "<", "<=", ">", ">=", "+", "-", "*", "/", "%", "+", "*"}
	return drawnText(draw, left) + " " + between[draw.Intn(len(between))] + " " + drawnText(draw, size-left)
}

// P5.1, P5.2: drawn texts, and such texts with some tokens changed, held against the reference.
func TestReadDrawn(t *testing.T) {
	draw := rand.New(rand.NewSource(1))
	alphabet := someTokens()
	counts := map[api.Errno]int{}
	for range 3000 {
		text := drawnText(draw, 1+draw.Intn(40))
		nodes, at, fault := referenceParse(text)
		counts[fault]++
		if fault == api.OK {
			wantParse(t, text, nodes...)
		} else {
			wantFault(t, text, at, fault)
		}
		l := tokensOf(t, text)
		for range draw.Intn(3) {
			l[draw.Intn(len(l))] = alphabet[draw.Intn(len(alphabet))]
		}
		from := draw.Intn(len(l))
		nodes, at, fault = referenceRead(l, from)
		counts[fault]++
		if fault == api.OK {
			wantRead(t, l, from, at, nodes...)
		} else {
			wantReadFault(t, l, from, at, fault)
		}
		if t.Failed() {
			t.FailNow()
		}
	}
	for _, fault := range []api.Errno{api.OK, api.ErrExpr, api.ErrNodes, api.ErrDepth} {
		if counts[fault] < 10 {
			t.Errorf("just %d texts with %v", counts[fault], fault)
		}
	}
}
