package decl_test

import (
	"fmt"
	"slices"
	"strings"
	"testing"

	"chordmail/api"
	"chordmail/decl"
	"chordmail/expr"
)

func sameExpr(a, b api.Expr) bool { return slices.Equal(a.Nodes, b.Nodes) }

func sameAct(a, b api.Act) bool {
	return a.Kind == b.Kind && sameExpr(a.To, b.To) && a.Name == b.Name && a.Var == b.Var && slices.EqualFunc(a.Args, b.Args, sameExpr)
}

func samePart(a, b api.Part) bool { return a.Tag == b.Tag && slices.Equal(a.Vars, b.Vars) }

func sameChord(a, b api.Chord) bool {
	return a.Name == b.Name && slices.EqualFunc(a.Parts, b.Parts, samePart) && sameExpr(a.Guard, b.Guard) && slices.EqualFunc(a.Body, b.Body, sameAct)
}

func sameKind(a, b api.Kind) bool {
	return a.Name == b.Name && slices.EqualFunc(a.Chords, b.Chords, sameChord)
}

func sameTag(a, b api.Tag) bool { return a.Name == b.Name && slices.Equal(a.Types, b.Types) }

func sameProgram(a, b api.Program) bool {
	return slices.EqualFunc(a.Tags, b.Tags, sameTag) && slices.EqualFunc(a.Kinds, b.Kinds, sameKind)
}

// complain tells what is wrong, shortened: some texts are long.
func complain(t *testing.T, format string, of ...any) {
	t.Helper()
	said := fmt.Sprintf(format, of...)
	if len(said) > 1500 {
		said = said[:1500] + ".."
	}
	t.Error(said)
}

func wantProgram(t *testing.T, text string, wanted api.Program) {
	t.Helper()
	p, at, fault := decl.Parse([]byte(text))
	if fault != api.OK || at != 0 || !sameProgram(p, wanted) {
		complain(t, "Parse of %.200q: %v, %d, %v; want %v", text, p, at, fault, wanted)
	}
}

func wantFault(t *testing.T, text string, place int, wanted api.Errno) {
	t.Helper()
	p, at, fault := decl.Parse([]byte(text))
	if fault != wanted || at != place || len(p.Tags) != 0 || len(p.Kinds) != 0 {
		complain(t, "Parse of %.200q: %d, %v, %d tags, %d kinds; want %d, %v", text, at, fault, len(p.Tags), len(p.Kinds), place, wanted)
	}
}

func wantChord(t *testing.T, text string, wanted api.Chord) {
	t.Helper()
	c, at, fault := decl.ParseChord([]byte(text))
	if fault != api.OK || at != 0 || !sameChord(c, wanted) {
		complain(t, "ParseChord of %.200q: %v, %d, %v; want %v", text, c, at, fault, wanted)
	}
}

func wantChordFault(t *testing.T, text string, place int, wanted api.Errno) {
	t.Helper()
	c, at, fault := decl.ParseChord([]byte(text))
	if fault != wanted || at != place || !sameChord(c, api.Chord{}) {
		complain(t, "ParseChord of %.200q: %d, %v, %v; want %d, %v", text, at, fault, c, place, wanted)
	}
}

// parsed must be given a program's text.
func parsed(t *testing.T, text string) api.Program {
	t.Helper()
	p, at, fault := decl.Parse([]byte(text))
	if fault != api.OK || at != 0 {
		t.Fatalf("Parse of %.200q: %d, %v", text, at, fault)
	}
	return p
}

func tag(name string, types ...int) api.Tag { return api.Tag{Name: name, Types: types} }

func part(name string, vars ...string) api.Part { return api.Part{Tag: name, Vars: vars} }

func kind(name string, chords ...api.Chord) api.Kind { return api.Kind{Name: name, Chords: chords} }

func kinds(l ...api.Kind) api.Program { return api.Program{Kinds: l} }

// nodes is an expression by its nodes.
func nodes(l ...api.Node) api.Expr { return api.Expr{Nodes: l} }

func whole(n int64) api.Node {
	return api.Node{Kind: api.NodeValue, Value: api.Value{Kind: api.Int, Int: n}}
}

func scaled(f float64) api.Node {
	return api.Node{Kind: api.NodeValue, Value: api.Value{Kind: api.Real, Real: f}}
}

func said(s string) api.Node {
	return api.Node{Kind: api.NodeValue, Value: api.Value{Kind: api.Text, Text: s}}
}

func called(name string) api.Node { return api.Node{Kind: api.NodeVar, Name: name} }

func two(kind, a, b int) api.Node { return api.Node{Kind: kind, A: a, B: b} }

// of must be given an expression's text.
func of(text string) api.Expr {
	e, _, fault := expr.Parse([]byte(text))
	if fault != api.OK {
		panic(text)
	}
	return e
}

func exprs(texts ...string) []api.Expr {
	var l []api.Expr
	for _, text := range texts {
		l = append(l, of(text))
	}
	return l
}

func send(to, name string, args ...string) api.Act {
	return api.Act{Kind: api.ActSend, To: of(to), Name: name, Args: exprs(args...)}
}

func spawn(name, v string) api.Act { return api.Act{Kind: api.ActSpawn, Name: name, Var: v} }

func reply(args ...string) api.Act { return api.Act{Kind: api.ActReply, Args: exprs(args...)} }

func become(name string) api.Act { return api.Act{Kind: api.ActBecome, Name: name} }

// wantBody holds the acts of a chord's body against wanted ones.
func wantBody(t *testing.T, acts string, wanted ...api.Act) {
	t.Helper()
	c := api.Chord{Name: "c", Parts: []api.Part{part("p")}, Body: wanted}
	wantProgram(t, "kind k { chord c: p() {"+acts+"} }", kinds(kind("k", c)))
	wantChord(t, "chord c: p() {"+acts+"}", c)
}

// wantBodyFault holds a fault in a chord's body against a wanted one, whose place is told from the first act on.
func wantBodyFault(t *testing.T, acts string, place int, wanted api.Errno) {
	t.Helper()
	ahead := "kind k { chord c: p() { "
	wantFault(t, ahead+acts+" } }", len(ahead)+place, wanted)
	ahead = "chord c: p() { "
	wantChordFault(t, ahead+acts+" }", len(ahead)+place, wanted)
}

// P8.1: the chapter's examples.
func TestExamples(t *testing.T) {
	wantProgram(t, "tag inc(int, text); tag ping();", api.Program{Tags: []api.Tag{tag("inc", api.Int, api.Text), tag("ping")}})
	wantProgram(t, `kind k { chord c: inc(n, _) & ping() when n < 5 { send self inc(n + 1, "a"); become k; } }`, kinds(kind("k", api.Chord{
		Name:  "c",
		Parts: []api.Part{part("inc", "n", "_"), part("ping")},
		Guard: nodes(called("n"), whole(5), two(api.NodeLt, 0, 1)),
		Body: []api.Act{
			{Kind: api.ActSend, To: nodes(called("self")), Name: "inc", Args: []api.Expr{nodes(called("n"), whole(1), two(api.NodeAdd, 0, 1)), nodes(said("a"))}},
			{Kind: api.ActBecome, Name: "k"},
		},
	})))
	wantProgram(t, "kind k { chord c: ping() { spawn k as v; send v ping(); reply(v, 1p0); } }", kinds(kind("k", api.Chord{
		Name:  "c",
		Parts: []api.Part{part("ping")},
		Body: []api.Act{
			{Kind: api.ActSpawn, Name: "k", Var: "v"},
			{Kind: api.ActSend, To: nodes(called("v")), Name: "ping"},
			{Kind: api.ActReply, Args: []api.Expr{nodes(called("v")), nodes(scaled(1))}},
		},
	})))
	wantProgram(t, "", api.Program{})
	wantProgram(t, "# so", api.Program{})
	wantFault(t, "tag t(bool);", 6, api.ErrDecl)
	wantFault(t, "tag t(int", 9, api.ErrDecl)
	wantFault(t, "tag kind();", 4, api.ErrDecl)
	wantFault(t, "kind k { chord c: { } }", 18, api.ErrDecl)
	wantFault(t, "kind k { chord c: p(x) when { } }", 28, api.ErrExpr)
	wantFault(t, "kind k { chord c: p() { send (1) (2); } }", 33, api.ErrDecl)
	wantFault(t, "tag t();;", 8, api.ErrDecl)
	wantFault(t, "tag 5a();", 4, api.ErrLexNumber)
}

// P8.1: a text without a token is a program without tags and kinds.
func TestNothing(t *testing.T) {
	for _, text := range []string{"", " ", "\n", "\t\r\n  ", "#", "# tag t();", "# a\n# b\n", " # tag\n\t", strings.Repeat(" ", 32768), "#" + strings.Repeat("x", 32767)} {
		wantProgram(t, text, api.Program{})
		wantChordFault(t, text, len(text), api.ErrDecl)
	}
	if p, at, fault := decl.Parse(nil); fault != api.OK || at != 0 || len(p.Tags) != 0 || len(p.Kinds) != 0 {
		complain(t, "Parse of nil: %v, %d, %v", p, at, fault)
	}
	if c, at, fault := decl.ParseChord(nil); fault != api.ErrDecl || at != 0 || !sameChord(c, api.Chord{}) {
		complain(t, "ParseChord of nil: %v, %d, %v", c, at, fault)
	}
}

// P8.1: a tag's types, in the order in which they stand; how many there may be is the next layer's to say.
func TestTags(t *testing.T) {
	tags := func(l ...api.Tag) api.Program { return api.Program{Tags: l} }
	wantProgram(t, "tag t();", tags(tag("t")))
	wantProgram(t, "tag t(int);", tags(tag("t", api.Int)))
	wantProgram(t, "tag t(real);", tags(tag("t", api.Real)))
	wantProgram(t, "tag t(comp);", tags(tag("t", api.Comp)))
	wantProgram(t, "tag t(text);", tags(tag("t", api.Text)))
	wantProgram(t, "tag t(text, comp, real, int, int, text);", tags(tag("t", api.Text, api.Comp, api.Real, api.Int, api.Int, api.Text)))
	wantProgram(t, "tag t(int"+strings.Repeat(", int", 99)+");", tags(tag("t", slices.Repeat([]int{api.Int}, 100)...)))
	wantProgram(t, "tag b();tag a(int);tag b();tag int(int);", tags(tag("b"), tag("a", api.Int), tag("b"), tag("int", api.Int)))
	var many []api.Tag
	for range 1000 {
		many = append(many, tag("t", api.Real))
	}
	wantProgram(t, strings.Repeat("tag t(real); ", 1000), tags(many...))
}

// P8.1: kinds, chords and parts, in the order in which they stand; how many there may be, and whether their names are there, is the next layer's to say.
func TestKinds(t *testing.T) {
	wantProgram(t, "kind k { }", kinds(kind("k")))
	wantProgram(t, "kind k {}kind j{}kind k{}", kinds(kind("k"), kind("j"), kind("k")))
	c := api.Chord{Name: "c", Parts: []api.Part{part("p")}}
	d := api.Chord{Name: "d", Parts: []api.Part{part("q", "_", "x", "x", "_"), part("p"), part("q", "self")}}
	const textC, textD = "chord c: p() { }", "chord d: q(_, x, x, _) & p() & q(self) { }"
	wantProgram(t, "kind k { "+textD+" "+textC+" }", kinds(kind("k", d, c)))
	wantProgram(t, "kind k { "+textC+textC+textD+textC+" } kind j { } kind k { "+textD+" }", kinds(kind("k", c, c, d, c), kind("j"), kind("k", d)))
	wantProgram(t, "kind k { } tag t(int); kind j { "+textC+" } tag u(); tag t();", api.Program{Tags: []api.Tag{tag("t", api.Int), tag("u"), tag("t")}, Kinds: []api.Kind{kind("k"), kind("j", c)}})
	wantProgram(t, "kind k { "+strings.Repeat(textC, 100)+" }", kinds(kind("k", slices.Repeat([]api.Chord{c}, 100)...)))
	var many []api.Kind
	for range 300 {
		many = append(many, kind("k", d))
	}
	wantProgram(t, strings.Repeat("kind k { "+textD+" }", 300), kinds(many...))
	wantChord(t, textC, c)
	wantChord(t, " # a chord\n"+textD+"\n# behind it", d)
	wantChord(t, "chord c: p()"+strings.Repeat(" & p()", 99)+" { }", api.Chord{Name: "c", Parts: slices.Repeat([]api.Part{part("p")}, 100)})
	wantChord(t, "chord c: p(_"+strings.Repeat(",_", 99)+") { }", api.Chord{Name: "c", Parts: []api.Part{part("p", slices.Repeat([]string{"_"}, 100)...)}})
}

// P8.1: a guard goes on as far as it can; a chord without one has none.
func TestGuards(t *testing.T) {
	for _, text := range []string{
		"n", "true", "5", `"a"`, `"{ }"`, "n == 5 && !(n < self) || false", "-n", "!-!x", "(n)", "((n + 1) * 2)", "re(comp(1p0, x)) < 1p1", "at(t, len(t) - 1)",
		"when", "send && kind", "a < (b < c)", "x" + strings.Repeat(" + (x)", 8),
	} {
		c := api.Chord{Name: "c", Parts: []api.Part{part("p", "x")}, Guard: of(text)}
		wantChord(t, "chord c: p(x) when "+text+" { }", c)
		c.Body = []api.Act{become("k")}
		wantProgram(t, "kind k { chord c: p(x) when "+text+"{become k;}chord c: p(x) when "+text+"{become k;} }", kinds(kind("k", c, c)))
	}
	const ahead = "chord c: p(x) when "
	for _, c := range []struct {
		text  string
		place int
		fault api.Errno
	}{
		{"{ }", 0, api.ErrExpr}, {"when x { }", 5, api.ErrDecl}, {"x when x { }", 2, api.ErrDecl}, {"x x { }", 2, api.ErrDecl}, {"x 5 { }", 2, api.ErrDecl}, {"x & p() { }", 2, api.ErrDecl},
		{"a < b < c { }", 6, api.ErrDecl}, {"a < b == c { }", 6, api.ErrDecl}, {"f(x) { }", 1, api.ErrDecl}, {"5 (x) { }", 2, api.ErrDecl}, {"(x) (x) { }", 4, api.ErrDecl},
		{"x = 5 { }", 2, api.ErrDecl}, {"x;", 1, api.ErrDecl}, {"x, y { }", 1, api.ErrDecl}, {"x) { }", 1, api.ErrDecl}, {"x ! y { }", 2, api.ErrDecl}, {"_ { }", 0, api.ErrExpr}, {"x _ { }", 2, api.ErrDecl},
		{"x + { }", 4, api.ErrExpr}, {"(x { }", 3, api.ErrExpr}, {"!{ }", 1, api.ErrExpr}, {"re x { }", 3, api.ErrExpr}, {"at(x) { }", 4, api.ErrExpr}, {"x && || y { }", 5, api.ErrExpr}, {"() { }", 1, api.ErrExpr}, {"-> x { }", 0, api.ErrExpr},
		{"", 0, api.ErrExpr}, {"x", 1, api.ErrDecl}, {"x +", 3, api.ErrExpr}, {"x {", 3, api.ErrDecl}, {"x { } }", 6, api.ErrDecl},
	} {
		wantChordFault(t, ahead+c.text, len(ahead)+c.place, c.fault)
		if c.text != "x { } }" {
			wantFault(t, "kind k { "+ahead+c.text, 9+len(ahead)+c.place, c.fault)
		}
	}
}

// P8.1: each kind of act, and what it names.
func TestActs(t *testing.T) {
	wantBody(t, "")
	wantBody(t, "send 0 t();", send("0", "t"))
	wantBody(t, "send n + 1 inc(x);", send("n + 1", "inc", "x"))
	wantBody(t, "send f inc(x);", send("f", "inc", "x"))
	wantBody(t, "send (f) inc(x);", send("f", "inc", "x"))
	wantBody(t, "send -f - 1 inc(-x);", send("-f - 1", "inc", "-x"))
	wantBody(t, "send len(t) len(t);", send("len(t)", "len", "t"))
	wantBody(t, "send len(t) true(true);", send("len(t)", "true", "true"))
	wantBody(t, `send "a" == t && x t("a", (b), -1, 5p-1, c < d, !e, at(t, 0));`, send(`"a" == t && x`, "t", `"a"`, "b", "-1", "5p-1", "c < d", "!e", "at(t, 0)"))
	wantBody(t, "send send send_();", send("send", "send_"))
	wantBody(t, "spawn k as v;", spawn("k", "v"))
	wantBody(t, "spawn v as v; spawn self as self;", spawn("v", "v"), spawn("self", "self"))
	wantBody(t, "reply();", reply())
	wantBody(t, "reply(0);", reply("0"))
	wantBody(t, "reply(a, b + 1, true);", reply("a", "b + 1", "true"))
	wantBody(t, "reply(reply, as, (tag));", reply("reply", "as", "tag"))
	wantBody(t, "reply(0"+strings.Repeat(", 0", 99)+");", reply(slices.Repeat([]string{"0"}, 100)...))
	wantBody(t, "send 0 t(0"+strings.Repeat(", 0", 99)+");", send("0", "t", slices.Repeat([]string{"0"}, 100)...))
	wantBody(t, "become k;", become("k"))
	wantBody(t, "become k;become j;become k;", become("k"), become("j"), become("k"))
	wantBody(t, "reply();spawn k as v;send v t();become v;reply(v);", reply(), spawn("k", "v"), send("v", "t"), become("v"), reply("v"))
	wantBody(t, strings.Repeat("become k; reply(x);", 100), slices.Repeat([]api.Act{become("k"), reply("x")}, 100)...)
}

// P8.1: acts that the grammar does not say.
func TestWrongActs(t *testing.T) {
	for _, c := range []struct {
		acts  string
		place int
		fault api.Errno
	}{
		{"send (1) (2);", 9, api.ErrDecl}, {"send 1 (2);", 7, api.ErrDecl}, {"send f (2);", 7, api.ErrDecl}, {"send f(2);", 6, api.ErrDecl}, {"send len(t)(2);", 11, api.ErrDecl}, {"send 1 + t(2);", 10, api.ErrDecl},
		{"send t();", 6, api.ErrDecl}, {"send ();", 6, api.ErrExpr}, {"send;", 4, api.ErrExpr}, {"send 1;", 6, api.ErrDecl}, {"send 1 t;", 8, api.ErrDecl}, {"send 1 t()", 11, api.ErrDecl}, {"send 1 t() t();", 11, api.ErrDecl},
		{"send 1 2 t();", 7, api.ErrDecl}, {"send 1 5t();", 7, api.ErrLexNumber}, {"send 1 t u();", 9, api.ErrDecl}, {"send 1 _();", 7, api.ErrDecl}, {"send _ t();", 5, api.ErrExpr}, {"send 1 send();", 7, api.ErrDecl}, {"send 1, 2 t();", 6, api.ErrDecl},
		{"send a < b < c t();", 11, api.ErrDecl}, {`send 1 "t"();`, 7, api.ErrDecl}, {"send 1 t(_);", 9, api.ErrExpr}, {"send 1 t(x y);", 11, api.ErrDecl}, {"send 1 t(x;", 10, api.ErrDecl}, {"send 1 t(x;);", 10, api.ErrDecl}, {"send 1 t(x + );", 13, api.ErrExpr},
		{"send 1 t{};", 8, api.ErrDecl}, {"send 1 t()(); ", 10, api.ErrDecl},
		{"spawn;", 5, api.ErrDecl}, {"spawn k;", 7, api.ErrDecl}, {"spawn k v;", 8, api.ErrDecl}, {"spawn k as;", 10, api.ErrDecl}, {"spawn as v;", 6, api.ErrDecl}, {"spawn as as v;", 6, api.ErrDecl}, {"spawn k as as;", 11, api.ErrDecl}, {"spawn k as v", 13, api.ErrDecl},
		{"spawn k as _;", 11, api.ErrDecl}, {"spawn k() as v;", 7, api.ErrDecl}, {"spawn (k) as v;", 6, api.ErrDecl}, {"spawn k as v();", 12, api.ErrDecl}, {"spawn 5 as v;", 6, api.ErrDecl}, {`spawn k "as" v;`, 8, api.ErrDecl}, {"spawn k as 5;", 11, api.ErrDecl}, {"spawn k as v, w;", 12, api.ErrDecl},
		{"reply;", 5, api.ErrDecl}, {"reply 5;", 6, api.ErrDecl}, {"reply(", 7, api.ErrExpr}, {"reply()", 8, api.ErrDecl}, {"reply(5", 8, api.ErrDecl}, {"reply t();", 6, api.ErrDecl}, {"reply()();", 7, api.ErrDecl}, {"reply(5) 5;", 9, api.ErrDecl}, {"reply((5, 5));", 8, api.ErrExpr}, {"reply({});", 6, api.ErrExpr},
		{"become;", 6, api.ErrDecl}, {"become k", 9, api.ErrDecl}, {"become k();", 8, api.ErrDecl}, {"become become;", 7, api.ErrDecl}, {"become k, j;", 8, api.ErrDecl}, {"become _;", 7, api.ErrDecl}, {"become 5;", 7, api.ErrDecl}, {"become k j;", 9, api.ErrDecl}, {"become (k);", 7, api.ErrDecl},
		{";", 0, api.ErrDecl}, {"reply();;", 8, api.ErrDecl}, {"x;", 0, api.ErrDecl}, {"5;", 0, api.ErrDecl}, {"t();", 0, api.ErrDecl}, {"tag t();", 0, api.ErrDecl}, {"when x;", 0, api.ErrDecl}, {"as v;", 0, api.ErrDecl}, {"Send 1 t();", 0, api.ErrDecl}, {`"send" 1 t();`, 0, api.ErrDecl},
		{"sends 1 t();", 0, api.ErrDecl}, {"chord c: p() { }", 0, api.ErrDecl}, {"kind k { }", 0, api.ErrDecl}, {"{ }", 0, api.ErrDecl}, {"become k; { }", 10, api.ErrDecl}, {"become k; x", 10, api.ErrDecl}, {"become k, become k;", 8, api.ErrDecl}, {"(reply());", 0, api.ErrDecl},
	} {
		wantBodyFault(t, c.acts, c.place, c.fault)
		wantBodyFault(t, "reply(); "+c.acts, 9+c.place, c.fault)
	}
}

// P8.3: the nine, and nothing else.
func TestKeyword(t *testing.T) {
	for _, name := range keywords() {
		if !decl.Keyword(name) {
			complain(t, "%q is no keyword", name)
		}
		others := []string{strings.ToUpper(name), strings.ToUpper(name[:1]) + name[1:], name[1:], name[:len(name)-1], name + "s", name + "_", name + " ", " " + name, name + "\x00", `"` + name + `"`, name + name}
		for _, other := range others {
			if decl.Keyword(other) {
				complain(t, "%q is a keyword", other)
			}
		}
	}
	others := []string{"", "_", "self", "int", "real", "comp", "text", "bool", "true", "false", "re", "im", "size2", "len", "at", "cat", "str", "(", "&", "if", "act", "part", "program", "type", "word", "var", "args", "expr", "k", "5", strings.Repeat("tag", 100000), "\xff"}
	for _, other := range others {
		if decl.Keyword(other) {
			complain(t, "%.100q is a keyword", other)
		}
	}
}

func keywords() []string {
	return []string{"tag", "kind", "chord", "when", "send", "spawn", "as", "reply", "become"}
}
