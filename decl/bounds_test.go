package decl_test

import (
	"slices"
	"strings"
	"testing"

	"chordmail/api"
	"chordmail/decl"
)

// wholes are the texts of chords around an expression: in a guard, a target, a first argument and a later one.
func wholes() [][2]string {
	const act = "chord c: p(x) { reply(); "
	return [][2]string{
		{"chord c: p(x) when ", " { become k; }"}, {act + "send ", " t(x); }"}, {act + "send x t(", "); }"}, {act + "send x t(1, ", ", 2); }"}, {act + "reply(", "); }"}, {act + "reply(\"a\", x, ", "); }"},
	}
}

// wantWithin holds an expression within each of the wholes against what is wanted of it: OK, or an error at a place that is told from the expression on.
func wantWithin(t *testing.T, text string, place int, wanted api.Errno) {
	t.Helper()
	for _, w := range wholes() {
		inChord, inKind := w[0]+text+w[1], "kind k { "+w[0]+text+w[1]+" }"
		if wanted != api.OK {
			wantChordFault(t, inChord, len(w[0])+place, wanted)
			wantFault(t, inKind, 9+len(w[0])+place, wanted)
			continue
		}
		x, _, fault := reference(inChord, "chord")
		if fault != api.OK {
			complain(t, "the reference of %q: %v", inChord, fault)
			continue
		}
		wantChord(t, inChord, x.chord())
		wantProgram(t, inKind, kinds(kind("k", x.chord())))
	}
}

// P8.1: within an expression: expr's error, at the place that expr tells of it.
func TestWithinExpressions(t *testing.T) {
	wantWithin(t, "x", 0, api.OK)
	for _, c := range []struct {
		text  string
		place int
	}{
		{"_", 0}, {"_ + 1", 0}, {"x + _", 4}, {"+", 0}, {"+ 1", 0}, {"1 + + 2", 4}, {"* 2", 0}, {"x == == y", 5}, {"-> 1", 0}, {"x + -> 1", 4}, {": x", 0}, {"= 5", 0}, {"{ }", 0}, {"}", 0}, {";", 0}, {"& x", 0}, {"x + & y", 4},
		{"re + 1", 3}, {"re()", 3}, {"re(x, y)", 4}, {"at(x)", 4}, {"cat(x, y, z)", 8}, {"comp(1p0; 1p0)", 8}, {"(x y)", 3}, {"(x; y)", 2}, {"(x, y)", 2}, {"()", 1}, {"(_)", 1},
	} {
		wantWithin(t, c.text, c.place, api.ErrExpr)
	}
	wantWithin(t, "5x", 0, api.ErrLexNumber)
	wantWithin(t, "x + 07", 4, api.ErrLexNumber)
	wantWithin(t, `x + "\n"`, 4, api.ErrLexText)
	wantWithin(t, "x $ y", 2, api.ErrLexByte)
	wantWithin(t, strings.Repeat("x", 33), 0, api.ErrLexName)
}

// P8.1: an expression that wants more than there is: the token that stands behind it in the act or the chord is told.
func TestOpenExpressions(t *testing.T) {
	for _, text := range []string{"!", "x +", "-", "x && !", "re(x) <", "x + (y *"} {
		wantChordFault(t, "chord c: p(x) when "+text+" { }", 20+len(text), api.ErrExpr)
		wantBodyFault(t, "reply("+text+");", 6+len(text), api.ErrExpr)
		wantBodyFault(t, "reply(x, "+text+", x);", 9+len(text), api.ErrExpr)
		wantBodyFault(t, "send x t("+text+" );", 10+len(text), api.ErrExpr)
		wantBodyFault(t, "send "+text, 6+len(text), api.ErrExpr) // the bracket that ends the chord
		wantChordFault(t, "chord c: p() { send "+text, 20+len(text), api.ErrExpr)
		wantChordFault(t, "chord c: p() { send "+text+" # t();", 27+len(text), api.ErrExpr)
	}
	// A name can go on where a target lacks its end: then it is the tag that lacks.
	wantBodyFault(t, "send x + t();", 10, api.ErrDecl)
	wantBodyFault(t, "send ! t();", 8, api.ErrDecl)
	wantBodyFault(t, "send (x t();", 8, api.ErrExpr)
	wantBodyFault(t, "send len t();", 9, api.ErrExpr)
	wantBodyFault(t, "send at(x) t();", 9, api.ErrExpr)
	wantBodyFault(t, "reply((x);", 9, api.ErrDecl)
	wantBodyFault(t, "reply(((x);", 10, api.ErrExpr)
	wantBodyFault(t, "reply(x));", 8, api.ErrDecl)
	wantBodyFault(t, "send x t((x);", 12, api.ErrDecl)
	wantBodyFault(t, "send x t(((x);", 13, api.ErrExpr)
	wantBodyFault(t, "send x t(x));", 11, api.ErrDecl)
}

// P8.1: each keyword is a variable within an expression.
func TestKeywordsWithin(t *testing.T) {
	for _, name := range keywords() {
		for _, text := range []string{name, name + " + 1", "x + " + name, "-" + name, "re(" + name + ")", "(" + name + ")", name + " == " + name} {
			wantWithin(t, text, 0, api.OK)
		}
		wantChord(t, "chord c: p() when "+name+" { send "+name+" t("+name+", "+name+"); reply("+name+"); }", api.Chord{
			Name: "c", Parts: []api.Part{part("p")}, Guard: nodes(called(name)), Body: []api.Act{send(name, "t", name, name), reply(name)},
		})
		wantBodyFault(t, "send "+name+" "+name+"();", 6+len(name), api.ErrDecl)
		wantBodyFault(t, "send x + "+name+";", 9+len(name), api.ErrDecl)
		wantChordFault(t, "chord c: p() when x "+name+" { }", 20, api.ErrDecl)
		wantChordFault(t, "chord c: p() when "+name+" "+name+" { }", 19+len(name), api.ErrDecl)
		wantBodyFault(t, "reply(x "+name+");", 8, api.ErrDecl)
	}
	wantChord(t, "chord c: p() when true { send false t(self, int); }", api.Chord{
		Name: "c", Parts: []api.Part{part("p")}, Guard: of("true"), Body: []api.Act{send("false", "t", "self", "int")},
	})
}

// P8.1: 64 nodes and the depth 12 may be; of more the expression's first token is told, behind what expr cannot understand in it, ahead of all that stands behind it.
func TestGreatExpressions(t *testing.T) {
	product := "(x + x) * (x + x)"
	half := "(" + product + " - " + product + ") < (" + product + " - " + product + ")"
	full := "!(" + half + " && " + half + ")"
	if n := len(of(full).Nodes); n != api.MaxNodes {
		complain(t, "%d nodes", n)
	}
	many := "x" + strings.Repeat(" && x", 32)
	deep := func(n int) string { return strings.Repeat("-", n-1) + "x" }
	for _, text := range []string{deep(12), full, "((" + full + "))", half + " || !(" + half + ")", strings.Repeat("(", 500) + deep(12) + strings.Repeat(")", 500), strings.Repeat("re(", 11) + "x" + strings.Repeat(")", 11)} {
		wantWithin(t, text, 0, api.OK)
		wantWithin(t, "\n "+text, 0, api.OK)
	}
	for _, c := range []struct {
		text  string
		fault api.Errno
	}{
		{"!" + full, api.ErrNodes}, {full + " || x", api.ErrNodes}, {many, api.ErrNodes}, {strings.Repeat("-", 64) + "x", api.ErrNodes}, {"x" + strings.Repeat(" && x", 4000), api.ErrNodes},
		{deep(13), api.ErrDepth}, {deep(64), api.ErrDepth}, {strings.Repeat("re(", 12) + "x" + strings.Repeat(")", 12), api.ErrDepth}, {"x" + strings.Repeat(" + x", 12), api.ErrDepth}, {"x < (" + deep(12) + ")", api.ErrDepth},
	} {
		wantWithin(t, c.text, 0, c.fault)
		wantWithin(t, "(("+c.text+"))", 0, c.fault)
		wantWithin(t, "# so\n  "+c.text, 7, c.fault)
		// What expr cannot understand in it is told ahead of that ..
		wantWithin(t, c.text+" + _", len(c.text)+3, api.ErrExpr)
		wantWithin(t, "("+c.text+" ;)", len(c.text)+2, api.ErrExpr)
		// .. but not what cannot stand behind it, unless lex can't understand that.
		wantWithin(t, c.text+" _", 0, c.fault)
		wantWithin(t, c.text+" ) ( $", len(c.text)+5, api.ErrLexByte)
		wantChordFault(t, "chord c: p() when "+c.text, 18, c.fault)
		wantChordFault(t, "chord c: p() { send "+c.text, 20, c.fault)
		wantChordFault(t, "chord c: p() { reply("+c.text, 21, c.fault)
	}
	// Of several expressions the first one that has an error is told, and a wrong token ahead of it is told first.
	wantChordFault(t, "chord c: p() when "+deep(13)+" { send "+many+" t(_); }", 18, api.ErrDepth)
	wantChordFault(t, "chord c: p() when x { send "+many+" t(_); }", 27, api.ErrNodes)
	wantBodyFault(t, "send x t("+deep(13)+", "+many+");", 9, api.ErrDepth)
	wantBodyFault(t, "send x; reply("+deep(13)+");", 6, api.ErrDecl)
	wantBodyFault(t, "reply(x, "+many+", _);", 9, api.ErrNodes)
	wantBodyFault(t, "reply(_, "+many+");", 6, api.ErrExpr)
	// Each may be as great as it may be.
	wantBody(t, strings.Repeat("reply("+full+");", 40), slices.Repeat([]api.Act{reply(full)}, 40)...)
}

// P8.1: lex's error and place, ahead of whatever else is wrong.
func TestLexFirst(t *testing.T) {
	for _, c := range []struct {
		text  string
		fault api.Errno
	}{
		{"$", api.ErrLexByte}, {"|", api.ErrLexByte}, {"\x00", api.ErrLexByte}, {"\xff", api.ErrLexByte}, {"07", api.ErrLexNumber}, {"5x", api.ErrLexNumber}, {"9223372036854775808", api.ErrLexNumber}, {"2p0", api.ErrLexNumber}, {"3p", api.ErrLexNumber},
		{`"`, api.ErrLexText}, {`"\n"`, api.ErrLexText}, {"\"\n\"", api.ErrLexText}, {`"` + strings.Repeat("a", 257) + `"`, api.ErrLexText}, {strings.Repeat("n", 33), api.ErrLexName}, {strings.Repeat("n", 33) + "$", api.ErrLexName},
	} {
		tokens, _ := longTokens()
		for _, ahead := range []string{"", joined(tokens...) + "\n", ") x\n\n", "tag tag();\n", "kind k { chord c: p() when " + strings.Repeat("-", 70) + "x { } }\n", "tag t(", "kind k { chord c: p() when x { send 1 ", "\n", "# so\n"} {
			wantFault(t, ahead+c.text, len(ahead), c.fault)
			wantFault(t, ahead+c.text+" ) $ 07", len(ahead), c.fault)
			wantChordFault(t, ahead+c.text, len(ahead), c.fault)
		}
		wantFault(t, "tag t(); "+c.text+"\n$", 9, c.fault)
	}
	wantProgram(t, "tag t(); # $ 07 \"\n", api.Program{Tags: []api.Tag{tag("t")}}) // none is looked for in a comment
}

// P8.1: how long a text may be, whatever stands in it.
func TestLongest(t *testing.T) {
	const most = 32768
	for _, text := range []string{"", "tag t();", "kind k { }", "tag t(); # so"} {
		wanted := parsed(t, text)
		wantProgram(t, text+strings.Repeat(" ", most-len(text)), wanted)
		wantProgram(t, strings.Repeat("\n", most-len(text))+text, wanted)
		wantFault(t, text+strings.Repeat(" ", most+1-len(text)), 0, api.ErrLong)
		wantFault(t, strings.Repeat("\n", most+1-len(text))+text, 0, api.ErrLong)
		wantFault(t, text+strings.Repeat(" ", most-len(text))+"$ )", 0, api.ErrLong)
		wantChordFault(t, text+strings.Repeat(" ", most+1-len(text)), 0, api.ErrLong)
	}
	const chord = "chord c: p() { }"
	wantChord(t, chord+strings.Repeat("\t", most-len(chord)), api.Chord{Name: "c", Parts: []api.Part{part("p")}})
	wantChordFault(t, chord+strings.Repeat("\t", most+1-len(chord)), 0, api.ErrLong)
	wantChordFault(t, chord+strings.Repeat("\t", most-1-len(chord))+";", most-1, api.ErrDecl)
	wantFault(t, "tag t()"+strings.Repeat(" ", most-7), most, api.ErrDecl)
	wantFault(t, strings.Repeat("$", 1<<20), 0, api.ErrLong)

	// As many things as fit.
	p := parsed(t, strings.Repeat("tag t();", most/8))
	if len(p.Tags) != most/8 {
		complain(t, "%d tags", len(p.Tags))
	}
	p = parsed(t, strings.Repeat("kind k{}", most/8))
	if len(p.Kinds) != most/8 {
		complain(t, "%d kinds", len(p.Kinds))
	}
	c, at, fault := decl.ParseChord([]byte("chord c:p()" + strings.Repeat("&p()", 4000) + "{}"))
	if len(c.Parts) != 4001 || at != 0 || fault != api.OK {
		complain(t, "%d parts, %d, %v", len(c.Parts), at, fault)
	}
	c, at, fault = decl.ParseChord([]byte("chord c:p(){" + strings.Repeat("reply();", 4000) + "}"))
	if len(c.Body) != 4000 || at != 0 || fault != api.OK {
		complain(t, "%d acts, %d, %v", len(c.Body), at, fault)
	}
	c, at, fault = decl.ParseChord([]byte("chord c:p(_" + strings.Repeat(",_", 16000) + "){}"))
	if len(c.Parts) != 1 || len(c.Parts[0].Vars) != 16001 || at != 0 || fault != api.OK {
		complain(t, "%d parts, %d, %v", len(c.Parts), at, fault)
	}
	c, at, fault = decl.ParseChord([]byte("chord c:p(){reply(0" + strings.Repeat(",0", 16000) + ");}"))
	if len(c.Body) != 1 || len(c.Body[0].Args) != 16001 || at != 0 || fault != api.OK {
		complain(t, "%d acts, %d, %v", len(c.Body), at, fault)
	}

	// As deep as fits.
	wantBodyFault(t, "reply("+strings.Repeat("(", 32000)+");", 32006, api.ErrExpr)
	wantBodyFault(t, "send "+strings.Repeat("!", 32000)+"x t();", 5, api.ErrNodes)
	wantBody(t, "reply("+strings.Repeat("(", 16000)+"x"+strings.Repeat(")", 16000)+");", reply("x"))
	wantFault(t, strings.Repeat("{", most), 0, api.ErrDecl)
	wantFault(t, "kind k"+strings.Repeat("{", most-6), 7, api.ErrDecl)
}
