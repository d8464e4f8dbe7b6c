package decl_test

import (
	"slices"
	"strings"
	"testing"

	"chordmail/api"
	"chordmail/decl"
)

// wantReference holds Parse of a text against the reference, and answers the error.
func wantReference(t *testing.T, text string) api.Errno {
	t.Helper()
	x, place, wanted := reference(text, "program")
	if wanted == api.OK {
		wantProgram(t, text, x.program())
	} else {
		wantFault(t, text, place, wanted)
	}
	return wanted
}

// wantChordReference is wantReference of ParseChord.
func wantChordReference(t *testing.T, text string) api.Errno {
	t.Helper()
	x, place, wanted := reference(text, "chord")
	if wanted == api.OK {
		wantChord(t, text, x.chord())
	} else {
		wantChordFault(t, text, place, wanted)
	}
	return wanted
}

// longText is a text token by token; ahead of each stands what is told where the text ends in its place: D for ErrDecl, E for ErrExpr, and . where it may end there.
const longText = `
.tag Dinc D( Dint D, Dtext D) D; .tag Dping D( D) D;
.kind Dk D{
Dchord Dc D: Dinc D( Dn D, D_ D) D& Dping D( D) Dwhen En D< E5 D&& E! E( E- Ex E== Eat E( E"a" E, E1 E) E) D{
Dsend Eself D+ E1 Dinc D( En D* E1p1 D, E"b" D) D;
Dspawn Dk Das Dv D;
Dsend Ev Dping D( E) D;
Dreply D( E( Ev E) D, E1p0 D) D;
Dreply D( E) D;
Dbecome Dk D; D}
Dchord Dd D: Dping D( D) D{ D} D}
.kind Dj D{ D} .tag Dz D( Dcomp D) D;
`

// longTokens are the tokens of longText, and what stands ahead of each.
func longTokens() (tokens []string, ends []byte) {
	for _, w := range strings.Fields(longText) {
		tokens, ends = append(tokens, w[1:]), append(ends, w[0])
	}
	return tokens, ends
}

// joined is the text of tokens with a blank between each two.
func joined(tokens ...string) string { return strings.Join(tokens, " ") }

// beginning is the place at which, in their joined text, the token k begins.
func beginning(tokens []string, k int) int {
	if k == 0 {
		return 0
	}
	return len(joined(tokens[:k]...)) + 1
}

func faultOf(end byte) api.Errno {
	return map[byte]api.Errno{'.': api.OK, 'D': api.ErrDecl, 'E': api.ErrExpr}[end]
}

// P8.1: the longer text is read.
func TestLongText(t *testing.T) {
	tokens, _ := longTokens()
	ping := part("ping")
	wantProgram(t, joined(tokens...), api.Program{
		Tags: []api.Tag{tag("inc", api.Int, api.Text), tag("ping"), tag("z", api.Comp)},
		Kinds: []api.Kind{
			kind("k", api.Chord{
				Name:  "c",
				Parts: []api.Part{part("inc", "n", "_"), ping},
				Guard: of(`n < 5 && !(-x == at("a", 1))`),
				Body:  []api.Act{send("self + 1", "inc", "n * 1p1", `"b"`), spawn("k", "v"), send("v", "ping"), reply("v", "1p0"), reply(), become("k")},
			}, api.Chord{Name: "d", Parts: []api.Part{ping}}),
			kind("j"),
		},
	})
}

// P8.1: the end at each place of a text: the place is the text's length, also where blanks or a comment stand last.
func TestEnds(t *testing.T) {
	tokens, ends := longTokens()
	for k, end := range ends {
		for _, behind := range []string{"", " ", "\n\t\r\n", " # tag t();", "\n# so\n ", "#"} {
			text := joined(tokens[:k]...) + behind
			if end == '.' {
				wantReference(t, text)
				if _, at, fault := decl.Parse([]byte(text)); at != 0 || fault != api.OK {
					complain(t, "%q: %d, %v", text, at, fault)
				}
				continue
			}
			wantFault(t, text, len(text), faultOf(end))
		}
	}
	// Byte by byte, tokens that are torn apart with them.
	text := joined(tokens...)
	for i := range len(text) + 1 {
		wantReference(t, text[:i])
	}
}

// P8.1: a token that can stand nowhere, at each place of a text: it is the one that is told, whatever stands behind it.
func TestWrongTokens(t *testing.T) {
	tokens, ends := longTokens()
	for k, end := range append(ends, '.') {
		wanted := faultOf(end)
		if wanted == api.OK {
			wanted = api.ErrDecl
		}
		for _, wrong := range []string{"->", ".", "="} {
			wantFault(t, joined(slices.Insert(slices.Clone(tokens), k, wrong)...), beginning(tokens, k), wanted)
			if k < len(tokens) {
				wantFault(t, joined(slices.Replace(slices.Clone(tokens), k, k+1, wrong)...), beginning(tokens, k), wanted)
			}
			wantFault(t, joined(append(slices.Clone(tokens[:k]), wrong)...), beginning(tokens, k), wanted)
		}
	}
}

// P8.1: each token of a text made a text token: a keyword, a mark or a type's name within quotes is none.
func TestQuoted(t *testing.T) {
	tokens, ends := longTokens()
	quotedTokens := 0
	for k, end := range ends {
		if strings.Contains(tokens[k], `"`) {
			continue
		}
		text := joined(slices.Replace(slices.Clone(tokens), k, k+1, `"`+tokens[k]+`"`)...)
		wantReference(t, text)
		if end != 'E' { // in an expression a text may stand
			quotedTokens++
			wantFault(t, text, beginning(tokens, k), api.ErrDecl)
		}
	}
	if quotedTokens < 60 {
		complain(t, "just %d tokens", quotedTokens)
	}
}

// otherTokens are of each kind that the grammar tells apart, and some that it does not.
func otherTokens() []string {
	l := append(keywords(), "x", "self", "int", "comp", "bool", "true", "len", "at", "tags", "7", "3p-1", `"a"`, `"tag"`, `"("`, `"int"`, "_", "->", "&&", "==")
	return append(l, strings.Split("(){},;:.&+-*/%<>!=", "")...)
}

// P8.1: a token left out, doubled, changed with the next one, and another one in its place or ahead of it, at each place of a text.
func TestChangedTokens(t *testing.T) {
	tokens, _ := longTokens()
	counts := map[api.Errno]int{}
	for k := range tokens {
		texts := []string{
			joined(slices.Delete(slices.Clone(tokens), k, k+1)...),
			joined(slices.Insert(slices.Clone(tokens), k, tokens[k])...),
		}
		if k+1 < len(tokens) {
			turned := slices.Clone(tokens)
			turned[k], turned[k+1] = turned[k+1], turned[k]
			texts = append(texts, joined(turned...))
		}
		for _, other := range otherTokens() {
			texts = append(texts, joined(slices.Replace(slices.Clone(tokens), k, k+1, other)...), joined(slices.Insert(slices.Clone(tokens), k, other)...))
		}
		for _, text := range texts {
			counts[wantReference(t, text)]++
		}
		if t.Failed() {
			t.FailNow()
		}
	}
	for fault, wanted := range map[api.Errno]int{api.OK: 300, api.ErrDecl: 4000, api.ErrExpr: 1000} {
		if counts[fault] < wanted {
			complain(t, "just %d texts with %v", counts[fault], fault)
		}
	}
}

// P8.1: two tokens of any kind behind each beginning of a text.
func TestBeginnings(t *testing.T) {
	tokens := strings.Fields("tag t ( int , real ) ; kind k { chord c : p ( n , _ ) & q ( ) when n { send n t ( n , n ) ; spawn k as v ; reply ( ) ; become k ; } }")
	for k := range tokens {
		ahead := joined(tokens[:k]...)
		for _, a := range otherTokens() {
			text := joined(ahead, a)
			if wantReference(t, text); t.Failed() {
				t.FailNow()
			}
			// Behind a token that cannot stand there no other is looked at.
			if _, place, _ := reference(text, "program"); place == len(ahead)+1 && place < len(text) {
				wantReference(t, joined(text, "x"))
				continue
			}
			for _, b := range otherTokens() {
				wantReference(t, joined(text, b))
			}
		}
	}
}

// P8.2: the same of a chord's text, with what may stand around a chord in a program.
func TestChordPlaces(t *testing.T) {
	tokens, ends := longTokens()
	from := slices.Index(tokens, "chord")
	to := from + 1 + slices.Index(tokens[from+1:], "chord")
	tokens, ends = tokens[from:to], ends[from:to]
	for k, end := range ends {
		text := joined(tokens[:k]...)
		wantChordFault(t, text, len(text), faultOf(end))
		wantChordFault(t, text+" # so", len(text)+5, faultOf(end))
		wantChordFault(t, joined(slices.Insert(slices.Clone(tokens), k, "->")...), beginning(tokens, k), faultOf(end))
		wantChordReference(t, joined(slices.Delete(slices.Clone(tokens), k, k+1)...))
		for _, other := range otherTokens() {
			wantChordReference(t, joined(slices.Replace(slices.Clone(tokens), k, k+1, other)...))
			wantChordReference(t, joined(slices.Insert(slices.Clone(tokens), k, other)...))
		}
	}
	text := joined(tokens...)
	x, _, _ := reference(text, "chord")
	wantChord(t, text, x.chord())
	wantChord(t, "\n "+text+"\n# behind it\n", x.chord())
	for _, other := range otherTokens() {
		wantChordFault(t, joined(text, other), len(text)+1, api.ErrDecl)
		wantChordFault(t, text+"\n#\n"+other+" x", len(text)+3, api.ErrDecl)
	}
	wantChordFault(t, joined(text, text), len(text)+1, api.ErrDecl)
	wantChordFault(t, joined(text, "$"), len(text)+1, api.ErrLexByte)
	for _, ahead := range []string{"tag t(); ", "kind k { ", "x ", "{ ", "; ", `"chord" `, "Chord c: ", "5 "} {
		wantChordFault(t, ahead+text, 0, api.ErrDecl)
	}
	wantChordFault(t, "tag t();", 0, api.ErrDecl)
	wantChordFault(t, "kind k { "+text+" }", 0, api.ErrDecl)
	wantFault(t, text, 0, api.ErrDecl)
}

// around are texts on both sides of a word; var tells where '_' may stand in its place.
func around() []struct {
	ahead, behind string
	isVar         bool
} {
	const chord = "kind k { chord c: "
	const act = chord + "p() { "
	return []struct {
		ahead, behind string
		isVar         bool
	}{
		{"tag ", "(int);", false}, {"tag t(); tag ", "();", false}, {"kind ", " { }", false}, {"kind k { chord ", ": p() { } }", false},
		{chord, "() { } }", false}, {chord + "p() & ", "(x) { } }", false}, {chord + "p(", ") { } }", true}, {chord + "p(x, ", ") { } }", true}, {chord + "p(", ", _, x) when x { } }", true},
		{act + "send 0 ", "(); } }", false}, {act + "spawn ", " as v; } }", false}, {act + "spawn k as ", "; } }", false}, {act + "become ", "; } }", false},
	}
}

// P8.1: a keyword, a mark, a value and a text where a word is wanted; every other name is a word, be it another layer's own.
func TestWords(t *testing.T) {
	for _, c := range around() {
		for _, name := range []string{"x", "X", "x_", "x_1", "self", "int", "real", "comp", "text", "bool", "true", "false", "re", "im", "size2", "len", "at", "cat", "str", "Tag", "TAG", "tag_", "tags", "ta", "whe", "becomes", "a", "s", "program", strings.Repeat("w", 32)} {
			wantProgram(t, c.ahead+name+c.behind, changed(parsed(t, c.ahead+"w9"+c.behind), "w9", name))
		}
		for _, wrong := range append(keywords(), "5", "1p0", `"x"`, `""`, `"_"`, "!", "(", "{", "}", ";", ",", ":", "&", "=", "->", "(x)", "!x", `"x" y`, "7 y") {
			wantFault(t, c.ahead+wrong+c.behind, len(c.ahead), api.ErrDecl)
			wantFault(t, c.ahead+"\n"+wrong, len(c.ahead)+1, api.ErrDecl)
		}
		wantFault(t, c.ahead+strings.Repeat("w", 33)+c.behind, len(c.ahead), api.ErrLexName)
		wantFault(t, c.ahead+"x y"+c.behind, len(c.ahead)+2, api.ErrDecl)
		wantFault(t, c.ahead+"x 5"+c.behind, len(c.ahead)+2, api.ErrDecl)
		wantFault(t, c.ahead+"x _"+c.behind, len(c.ahead)+2, api.ErrDecl)
		wantFault(t, c.ahead+"$"+c.behind, len(c.ahead), api.ErrLexByte)
		if !c.isVar {
			wantFault(t, c.ahead+"_"+c.behind, len(c.ahead), api.ErrDecl)
			wantFault(t, c.ahead+"_x"+c.behind, len(c.ahead), api.ErrDecl)
			continue
		}
		wantProgram(t, c.ahead+"_"+c.behind, changed(parsed(t, c.ahead+"w9"+c.behind), "w9", "_"))
		wantFault(t, c.ahead+"_x"+c.behind, len(c.ahead)+1, api.ErrDecl)
		wantFault(t, c.ahead+"_ _"+c.behind, len(c.ahead)+2, api.ErrDecl)
		wantFault(t, c.ahead+"_()"+c.behind, len(c.ahead)+1, api.ErrDecl)
	}
}

// changed is a program with another name in a name's place.
func changed(p api.Program, from, to string) api.Program {
	change := func(s *string) {
		if *s == from {
			*s = to
		}
	}
	for i := range p.Tags {
		change(&p.Tags[i].Name)
	}
	for i := range p.Kinds {
		change(&p.Kinds[i].Name)
		for j := range p.Kinds[i].Chords {
			c := &p.Kinds[i].Chords[j]
			change(&c.Name)
			for k := range c.Parts {
				change(&c.Parts[k].Tag)
				for l := range c.Parts[k].Vars {
					change(&c.Parts[k].Vars[l])
				}
			}
			for k := range c.Body {
				change(&c.Body[k].Name)
				change(&c.Body[k].Var)
			}
		}
	}
	return p
}

// P8.1: what is no type's name in a type's place, first and behind others.
func TestTypes(t *testing.T) {
	for _, ahead := range []string{"tag t(", "tag u(); tag t(text, ", "tag t(int,real,"} {
		for _, wrong := range append(keywords(), "bool", "Int", "INT", "ints", "in", "integer", "string", "float", "complex", "value", "t", "x", "self", "true", "len", "_", "5", "1p0", `"int"`, `"bool"`, `""`, "(int)", "-int", "{", ";", ",", "&", "->") {
			wantFault(t, ahead+wrong+");", len(ahead), api.ErrDecl)
			wantFault(t, ahead+wrong+", int);", len(ahead), api.ErrDecl)
			wantFault(t, ahead+wrong, len(ahead), api.ErrDecl)
			if wrong != "," {
				wantFault(t, ahead+"int "+wrong, len(ahead)+4, api.ErrDecl)
			}
		}
	}
	for _, text := range []string{"int", "real", "comp", "text"} {
		wantFault(t, "tag t("+text+" "+text+");", 7+len(text), api.ErrDecl)
		wantFault(t, "tag t("+text+"(0));", 6+len(text), api.ErrDecl)
		wantFault(t, "tag t("+text+" x);", 7+len(text), api.ErrDecl)
	}
}

// P8.1: lists in brackets with a comma too many or too few, or another mark in a comma's or a bracket's place.
func TestLists(t *testing.T) {
	const part = "kind k { chord c: p"
	const act = part + "() { "
	lists := []struct {
		ahead, one, behind string
		fault              api.Errno // where one of the list is wanted
	}{
		{"tag t", "int", ";", api.ErrDecl}, {part, "x", " { } }", api.ErrDecl}, {part, "_", " { } }", api.ErrDecl}, {part + "() & q", "x", " { } }", api.ErrDecl},
		{act + "send 0 t", "x", "; } }", api.ErrExpr}, {act + "reply", "x", "; } }", api.ErrExpr}, {act + "reply", "x+1", "; } }", api.ErrExpr}, {act + "reply", "(x)", "; } }", api.ErrExpr},
	}
	for _, c := range lists {
		at, one := len(c.ahead), len(c.one)
		blanks := len(c.behind) - len(strings.TrimLeft(c.behind, " "))
		for n := range 9 {
			wantReference(t, c.ahead+"("+strings.Join(slices.Repeat([]string{c.one}, n), ",")+")"+c.behind)
			parsed(t, c.ahead+"("+strings.Join(slices.Repeat([]string{c.one}, n), " , ")+")"+c.behind)
		}
		wantFault(t, c.ahead+"(,)"+c.behind, at+1, c.fault)
		wantFault(t, c.ahead+"(,"+c.one+")"+c.behind, at+1, c.fault)
		wantFault(t, c.ahead+"("+c.one+",)"+c.behind, at+one+2, c.fault)
		wantFault(t, c.ahead+"("+c.one+","+c.one+",)"+c.behind, at+2*one+3, c.fault)
		wantFault(t, c.ahead+"("+c.one+",,"+c.one+")"+c.behind, at+one+2, c.fault)
		wantFault(t, c.ahead+"("+c.one+","+c.behind, at+one+2+blanks, c.fault)
		wantFault(t, c.ahead+"("+c.behind, at+1+blanks, c.fault)
		wantFault(t, c.ahead+c.behind, at+blanks, api.ErrDecl)
		wantFault(t, c.ahead+"() ()"+c.behind, at+3, api.ErrDecl)
		wantFault(t, c.ahead+"())"+c.behind, at+2, api.ErrDecl)
		wantFault(t, c.ahead+")"+c.behind, at, api.ErrDecl)
		wantFault(t, c.ahead+"{}"+c.behind, at, api.ErrDecl)
		wantFault(t, c.ahead+" 5"+")"+c.behind, at+1, api.ErrDecl)
		wantFault(t, c.ahead+"("+c.one+" "+c.one+")"+c.behind, at+one+2, api.ErrDecl)
		for _, wrong := range []string{";", ":", "&", "}", "=", "->", `","`, `")"`, ".", "tag"} {
			wantFault(t, c.ahead+"("+c.one+" "+wrong+" "+c.one+")"+c.behind, at+one+2, api.ErrDecl)
			wantFault(t, c.ahead+"("+c.one+" "+wrong+c.behind, at+one+2, api.ErrDecl)
		}
	}
}
