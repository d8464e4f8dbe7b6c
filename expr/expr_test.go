package expr_test

import (
	"math"
	"strings"
	"testing"

	"chordmail/api"
	"chordmail/expr"
	"chordmail/lex"
)

func whole(n int64) api.Node {
	return api.Node{Kind: api.NodeValue, Value: api.Value{Kind: api.Int, Int: n}}
}

func scaled(f float64) api.Node {
	return api.Node{Kind: api.NodeValue, Value: api.Value{Kind: api.Real, Real: f}}
}

func said(s string) api.Node {
	return api.Node{Kind: api.NodeValue, Value: api.Value{Kind: api.Text, Text: s}}
}

func truth(is bool) api.Node {
	n := api.Node{Kind: api.NodeValue, Value: api.Value{Kind: api.Bool}}
	if is {
		n.Value.Int = 1
	}
	return n
}

func called(name string) api.Node { return api.Node{Kind: api.NodeVar, Name: name} }

func one(kind, a int) api.Node { return api.Node{Kind: kind, A: a} }

func two(kind, a, b int) api.Node { return api.Node{Kind: kind, A: a, B: b} }

// tokensOf must be given a text without a fault.
func tokensOf(t *testing.T, text string) []lex.Token {
	t.Helper()
	l, at, e := lex.Scan([]byte(text))
	if e != api.OK {
		t.Fatalf("Scan of %.60q: %d, %v", text, at, e)
	}
	return l
}

// parsed must be given an expression's text.
func parsed(t *testing.T, text string) api.Expr {
	t.Helper()
	e, at, fault := expr.Parse([]byte(text))
	if fault != api.OK || at != 0 {
		t.Fatalf("Parse of %.60q: %d, %v", text, at, fault)
	}
	return e
}

func wantParse(t *testing.T, text string, nodes ...api.Node) {
	t.Helper()
	e, at, fault := expr.Parse([]byte(text))
	if fault != api.OK || at != 0 || !same(e.Nodes, nodes) {
		t.Errorf("Parse of %.60q: %v, %d, %v; want %v", text, e.Nodes, at, fault, nodes)
	}
}

func wantFault(t *testing.T, text string, place int, wanted api.Errno) {
	t.Helper()
	e, at, fault := expr.Parse([]byte(text))
	if fault != wanted || at != place || len(e.Nodes) != 0 {
		t.Errorf("Parse of %.60q: %d nodes, %d, %v; want %d, %v", text, len(e.Nodes), at, fault, place, wanted)
	}
}

// P5.2: the chapter's examples.
func TestParseExamples(t *testing.T) {
	wantParse(t, "1 + x * 2", whole(1), called("x"), whole(2), two(api.NodeMul, 1, 2), two(api.NodeAdd, 0, 3))
	wantFault(t, "a < b < c", 6, api.ErrExpr)
	wantFault(t, "1 +", 3, api.ErrExpr)
	wantFault(t, "len + 1", 4, api.ErrExpr)
	wantFault(t, "at(a)", 4, api.ErrExpr)
	wantFault(t, "re(a, b)", 4, api.ErrExpr)
	wantFault(t, "", 0, api.ErrExpr)
	wantFault(t, "a b", 2, api.ErrExpr)
	wantFault(t, "(a", 2, api.ErrExpr)
	wantFault(t, "a $", 2, api.ErrLexByte)
	wantFault(t, strings.Repeat("-", 13)+"x", 0, api.ErrDepth)
	wantFault(t, strings.Repeat("x && ", 32)+"x", 0, api.ErrNodes)
	e := parsed(t, strings.Repeat("-", 11)+"x")
	if len(e.Nodes) != 12 || expr.May(e) != api.OK {
		t.Errorf("eleven signs: %v", e.Nodes)
	}
}

// P5.2: each kind of node, and what it says.
func TestParseKinds(t *testing.T) {
	for kind, text := range operators {
		wantParse(t, "a "+text+" b", called("a"), called("b"), two(kind, 0, 1))
		wantParse(t, "1"+text+"2", whole(1), whole(2), two(kind, 0, 1))
	}
	for kind, text := range signs {
		wantParse(t, text+"a", called("a"), one(kind, 0))
	}
	for kind, text := range words {
		switch kind {
		case api.NodeComp, api.NodeAt, api.NodeCat:
			wantParse(t, text+"(a,b)", called("a"), called("b"), two(kind, 0, 1))
			wantParse(t, text+" ( -a , 1 ) ", called("a"), one(api.NodeNeg, 0), whole(1), two(kind, 1, 2))
		default:
			wantParse(t, text+"(a)", called("a"), one(kind, 0))
			wantParse(t, text+"(a || b)", called("a"), called("b"), two(api.NodeOr, 0, 1), one(kind, 2))
		}
	}
	wantParse(t, "true", truth(true))
	wantParse(t, "false", truth(false))
	wantParse(t, "0", whole(0))
	wantParse(t, "9223372036854775807", whole(math.MaxInt64))
	wantParse(t, "-9223372036854775807", whole(math.MaxInt64), one(api.NodeNeg, 0))
	wantParse(t, "0p0", scaled(0))
	wantParse(t, "-0p0", scaled(0), one(api.NodeNeg, 0))
	wantParse(t, "5p-1", scaled(2.5))
	wantParse(t, "1p-1074", scaled(math.SmallestNonzeroFloat64))
	wantParse(t, "9007199254740991p971", scaled(math.MaxFloat64))
	wantParse(t, `""`, said(""))
	wantParse(t, `"a\"\\\x00\xff"`, said("a\"\\\x00\xff"))
	wantParse(t, `"`+strings.Repeat("a", 256)+`"`, said(strings.Repeat("a", 256)))
	long := strings.Repeat("nN_0", 8)
	wantParse(t, long, called(long))
}

// P5.2: names that are nearly reserved, or that other layers take for words, are variables.
func TestParseNames(t *testing.T) {
	for _, s := range []string{"self", "send", "spawn", "reply", "become", "tag", "kind", "chord", "when", "as", "int", "text", "bool", "not", "and", "or", "size", "size1", "size22", "Re", "RE", "r", "rea", "reals", "True", "tru", "truee", "fals", "nan", "inf", "p0", "a_", "lens", "atan", "cats", "st"} {
		wantParse(t, s, called(s))
	}
}

// P5.2: what one level takes together, and which level takes first.
func TestParseLevels(t *testing.T) {
	a, b, c, d := called("a"), called("b"), called("c"), called("d")
	wantParse(t, "a - b - c", a, b, two(api.NodeSub, 0, 1), c, two(api.NodeSub, 2, 3))
	wantParse(t, "a - (b - c)", a, b, c, two(api.NodeSub, 1, 2), two(api.NodeSub, 0, 3))
	wantParse(t, "a / b % c * d", a, b, two(api.NodeDiv, 0, 1), c, two(api.NodeRem, 2, 3), d, two(api.NodeMul, 4, 5))
	wantParse(t, "a + b - c", a, b, two(api.NodeAdd, 0, 1), c, two(api.NodeSub, 2, 3))
	wantParse(t, "a && b && c", a, b, two(api.NodeAnd, 0, 1), c, two(api.NodeAnd, 2, 3))
	wantParse(t, "a || b && c", a, b, c, two(api.NodeAnd, 1, 2), two(api.NodeOr, 0, 3))
	wantParse(t, "a && b || c", a, b, two(api.NodeAnd, 0, 1), c, two(api.NodeOr, 2, 3))
	wantParse(t, "(a || b) && c", a, b, two(api.NodeOr, 0, 1), c, two(api.NodeAnd, 2, 3))
	wantParse(t, "a < b && c == d", a, b, two(api.NodeLt, 0, 1), c, d, two(api.NodeEq, 3, 4), two(api.NodeAnd, 2, 5))
	wantParse(t, "a + b < c * d", a, b, two(api.NodeAdd, 0, 1), c, d, two(api.NodeMul, 3, 4), two(api.NodeLt, 2, 5))
	wantParse(t, "a * b + c", a, b, two(api.NodeMul, 0, 1), c, two(api.NodeAdd, 2, 3))
	wantParse(t, "-a * b", a, one(api.NodeNeg, 0), b, two(api.NodeMul, 1, 2))
	wantParse(t, "-(a * b)", a, b, two(api.NodeMul, 0, 1), one(api.NodeNeg, 2))
	wantParse(t, "a - -b", a, b, one(api.NodeNeg, 1), two(api.NodeSub, 0, 2))
	wantParse(t, "!a == b", a, one(api.NodeNot, 0), b, two(api.NodeEq, 1, 2))
	wantParse(t, "-!-a", a, one(api.NodeNeg, 0), one(api.NodeNot, 1), one(api.NodeNeg, 2))
	wantParse(t, "((((a))))", a)
	wantParse(t, "re((a)) + (((b)))", a, one(api.NodeRe, 0), b, two(api.NodeAdd, 1, 2))
}

// P5.2: comparisons do not stand side by side, whichever two they are; with brackets round either one they do.
func TestParseComparisons(t *testing.T) {
	a, b, c := called("a"), called("b"), called("c")
	for x := api.NodeEq; x <= api.NodeGe; x++ {
		for y := api.NodeEq; y <= api.NodeGe; y++ {
			ox, oy := operators[x], operators[y]
			wantFault(t, "a "+ox+" b "+oy+" c", 5+len(ox), api.ErrExpr)
			wantFault(t, "(a "+ox+" b "+oy+" c)", 6+len(ox), api.ErrExpr)
			wantFault(t, "d && a "+ox+" b "+oy+" c", 10+len(ox), api.ErrExpr)
			wantFault(t, "d + a "+ox+" b - d "+oy+" c", 13+len(ox), api.ErrExpr)
			wantParse(t, "(a "+ox+" b) "+oy+" c", a, b, two(x, 0, 1), c, two(y, 2, 3))
			wantParse(t, "a "+ox+" (b "+oy+" c)", a, b, c, two(y, 1, 2), two(x, 0, 3))
			wantParse(t, "a "+ox+" b || b "+oy+" c", a, b, two(x, 0, 1), b, c, two(y, 3, 4), two(api.NodeOr, 2, 5))
		}
	}
}

// P5.2: a word is none without its brackets, and has just as many parts as it has; a name that is no word has no brackets.
func TestParseWords(t *testing.T) {
	for kind, w := range words {
		n := len(w)
		wantFault(t, w, n, api.ErrExpr)
		wantFault(t, w+" ", n+1, api.ErrExpr)
		wantFault(t, w+" + 1", n+1, api.ErrExpr)
		wantFault(t, w+" a", n+1, api.ErrExpr)
		wantFault(t, "1 + "+w+" ) ", n+5, api.ErrExpr)
		wantFault(t, w+"()", n+1, api.ErrExpr)
		wantFault(t, w+"(", n+1, api.ErrExpr)
		wantFault(t, w+"(,a)", n+1, api.ErrExpr)
		wantFault(t, w+"(a", n+2, api.ErrExpr)
		wantFault(t, w+"(a b)", n+3, api.ErrExpr)
		if kind == api.NodeComp || kind == api.NodeAt || kind == api.NodeCat {
			wantFault(t, w+"(a)", n+2, api.ErrExpr)
			wantFault(t, w+"(a,", n+3, api.ErrExpr)
			wantFault(t, w+"(a,)", n+3, api.ErrExpr)
			wantFault(t, w+"(a, b, c)", n+5, api.ErrExpr)
			wantFault(t, w+"(a, b", n+5, api.ErrExpr)
			wantFault(t, w+"((a, b))", n+3, api.ErrExpr)
			continue
		}
		wantFault(t, w+"(a,", n+2, api.ErrExpr)
		wantFault(t, w+"(a, b)", n+2, api.ErrExpr)
		wantFault(t, w+"(a)(b)", n+3, api.ErrExpr)
	}
	for _, w := range []string{"true", "false", "x", "self", "1", `"a"`} {
		wantFault(t, w+"(a)", len(w), api.ErrExpr)
	}
}

// P5.2: lex's errors and places come first, wherever else the text is wrong.
func TestParseLexFaults(t *testing.T) {
	wantFault(t, "$", 0, api.ErrLexByte)
	wantFault(t, "a b + 07", 6, api.ErrLexNumber)
	wantFault(t, ") \"a", 2, api.ErrLexText)
	wantFault(t, "1 + "+strings.Repeat("n", 33), 4, api.ErrLexName)
	wantFault(t, strings.Repeat("x && ", 64)+"x |", 321+1, api.ErrLexByte)
	wantFault(t, strings.Repeat("-", 20)+"x 2p0", 22, api.ErrLexNumber)
	wantFault(t, "x"+strings.Repeat(" ", 32768), 0, api.ErrLong)
	wantParse(t, "x"+strings.Repeat(" ", 32767), called("x"))
	wantFault(t, strings.Repeat(" ", 32768), 32768, api.ErrExpr)
}

// P5.2: where the token begins that is wrong, behind blanks and comments; of none the text's length; of too many nodes and too great a depth where the first one begins.
func TestParsePlaces(t *testing.T) {
	wantFault(t, " \n# x\n", 6, api.ErrExpr)
	wantFault(t, "# x", 3, api.ErrExpr)
	wantFault(t, "1 + # x\n", 8, api.ErrExpr)
	wantFault(t, "1 +\n# x\n )", 9, api.ErrExpr)
	wantFault(t, "a # x\nb # y", 6, api.ErrExpr)
	wantFault(t, " a)", 2, api.ErrExpr)
	wantFault(t, "a;", 1, api.ErrExpr)
	wantFault(t, "a, b", 1, api.ErrExpr)
	wantFault(t, "a ! b", 2, api.ErrExpr)
	wantFault(t, "a = b", 2, api.ErrExpr)
	wantFault(t, "a & b", 2, api.ErrExpr)
	wantFault(t, "a->b", 1, api.ErrExpr)
	wantFault(t, "a < = b", 4, api.ErrExpr)
	wantFault(t, "+a", 0, api.ErrExpr)
	wantFault(t, "_", 0, api.ErrExpr)
	wantFault(t, "a + _", 4, api.ErrExpr)
	wantFault(t, "()", 1, api.ErrExpr)
	wantFault(t, "(a))", 3, api.ErrExpr)
	wantFault(t, "1 2", 2, api.ErrExpr)
	wantFault(t, `a "b"`, 2, api.ErrExpr)
	wantFault(t, " # x\n "+strings.Repeat("x && ", 32)+"x", 6, api.ErrNodes)
	wantFault(t, "\t((("+strings.Repeat("-", 12)+"x)))", 1, api.ErrDepth)
	wantParse(t, " # x\n a # y\n+ # z\n b#", called("a"), called("b"), two(api.NodeAdd, 0, 1))
}

// P5.2: an end at each place of a longer text, each token once more, each other token in its stead, all held against the reference.
func TestParseOneTokenAway(t *testing.T) {
	const text = `!(a < 1 + -b) && comp(re(c), 5p-1) == (d) || len("x") % 2 >= at(t, self) * -3 / 7 - 1 && true != false`
	l := tokensOf(t, text)
	var pieces []string
	for _, x := range l {
		pieces = append(pieces, text[x.At:x.At+x.Size])
	}
	hold := func(pieces ...string) {
		t.Helper()
		s := strings.Join(pieces, " ")
		nodes, at, fault := referenceParse(s)
		if fault == api.OK {
			wantParse(t, s, nodes...)
		} else {
			wantFault(t, s, at, fault)
		}
	}
	with := func(k int, more ...string) []string {
		return append(append([]string{}, pieces[:k]...), more...)
	}
	others := []string{"a", "1", "0p0", `""`, "true", "re", "at", "(", ")", ",", "-", "!", "+", "*", "<", "==", "&&", "||", ";", "_", "->"}
	for k := range len(pieces) + 1 {
		hold(with(k)...)
		for _, other := range others {
			hold(with(k, append([]string{other}, pieces[k:]...)...)...)
			hold(with(k, other)...)
		}
		if k == len(pieces) {
			break
		}
		hold(with(k, pieces[k+1:]...)...)
		for _, other := range others {
			hold(with(k, append([]string{other}, pieces[k+1:]...)...)...)
		}
	}
	if nodes, _, fault := referenceParse(text); fault != api.OK || len(nodes) != 34 {
		t.Errorf("the reference of the whole text: %d nodes, %v", len(nodes), fault)
	}
}
