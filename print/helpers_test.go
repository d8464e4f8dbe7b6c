package print_test

import (
	"fmt"
	"math"
	"slices"
	"strings"
	"testing"

	"chordmail/api"
	"chordmail/decl"
	"chordmail/expr"
	"chordmail/print"
)

// complain tells what is wrong, shortened: some programs are long.
func complain(t *testing.T, format string, of ...any) {
	t.Helper()
	said := strings.ToValidUTF8(fmt.Sprintf(format, of...), "?")
	if len(said) > 1500 {
		said = said[:1500] + ".."
	}
	t.Error(said)
}

// parsed must be given a program's text.
func parsed(t *testing.T, text string) api.Program {
	t.Helper()
	p, at, fault := decl.Parse([]byte(text))
	if fault != api.OK {
		t.Fatalf("Parse of %.300q: %d, %v", text, at, fault)
	}
	return p
}

func tag(name string, types ...int) api.Tag { return api.Tag{Name: name, Types: types} }

func part(name string, vars ...string) api.Part { return api.Part{Tag: name, Vars: vars} }

func chord(name string, parts ...api.Part) api.Chord { return api.Chord{Name: name, Parts: parts} }

func kind(name string, chords ...api.Chord) api.Kind { return api.Kind{Name: name, Chords: chords} }

func tags(l ...api.Tag) api.Program { return api.Program{Tags: l} }

func kinds(l ...api.Kind) api.Program { return api.Program{Kinds: l} }

// of must be given an expression's text.
func of(text string) api.Expr {
	e, _, fault := expr.Parse([]byte(text))
	if fault != api.OK {
		panic(text)
	}
	return e
}

func exprs(texts ...string) []api.Expr {
	var l []api.Expr
	for _, text := range texts {
		l = append(l, of(text))
	}
	return l
}

func send(to, name string, args ...string) api.Act {
	return api.Act{Kind: api.ActSend, To: of(to), Name: name, Args: exprs(args...)}
}

func spawn(name, v string) api.Act { return api.Act{Kind: api.ActSpawn, Name: name, Var: v} }

func reply(args ...string) api.Act { return api.Act{Kind: api.ActReply, Args: exprs(args...)} }

func become(name string) api.Act { return api.Act{Kind: api.ActBecome, Name: name} }

// withBody is a chord of one part, which has these acts.
func withBody(l ...api.Act) api.Chord {
	c := chord("c", part("p"))
	c.Body = l
	return c
}

// withGuard is a chord of one part, which has this guard.
func withGuard(e api.Expr) api.Chord {
	c := chord("c", part("p"))
	c.Guard = e
	return c
}

// nodes is an expression by its nodes.
func nodes(l ...api.Node) api.Expr { return api.Expr{Nodes: l} }

func whole(n int64) api.Node {
	return api.Node{Kind: api.NodeValue, Value: api.Value{Kind: api.Int, Int: n}}
}

func scaled(f float64) api.Node {
	return api.Node{Kind: api.NodeValue, Value: api.Value{Kind: api.Real, Real: f}}
}

func said(s string) api.Node {
	return api.Node{Kind: api.NodeValue, Value: api.Value{Kind: api.Text, Text: s}}
}

func called(name string) api.Node { return api.Node{Kind: api.NodeVar, Name: name} }

func one(kind, a int) api.Node { return api.Node{Kind: kind, A: a} }

func two(kind, a, b int) api.Node { return api.Node{Kind: kind, A: a, B: b} }

// cloned is a list of what one makes of each thing of a list.
func cloned[T, U any](l []T, one func(T) U) []U {
	var made []U
	for _, x := range l {
		made = append(made, one(x))
	}
	return made
}

func clonedExpr(e api.Expr) api.Expr { return api.Expr{Nodes: slices.Clone(e.Nodes)} }

func clonedAct(a api.Act) api.Act {
	a.To, a.Args = clonedExpr(a.To), cloned(a.Args, clonedExpr)
	return a
}

func clonedPart(p api.Part) api.Part {
	p.Vars = slices.Clone(p.Vars)
	return p
}

func clonedChord(c api.Chord) api.Chord {
	c.Parts, c.Guard, c.Body = cloned(c.Parts, clonedPart), clonedExpr(c.Guard), cloned(c.Body, clonedAct)
	return c
}

func clonedKind(k api.Kind) api.Kind {
	k.Chords = cloned(k.Chords, clonedChord)
	return k
}

func clonedTag(a api.Tag) api.Tag {
	a.Types = slices.Clone(a.Types)
	return a
}

func clonedProgram(p api.Program) api.Program {
	return api.Program{Tags: cloned(p.Tags, clonedTag), Kinds: cloned(p.Kinds, clonedKind)}
}

// changed is a program of its own to which something was done.
func changed(p api.Program, do func(p *api.Program)) api.Program {
	p = clonedProgram(p)
	do(&p)
	return p
}

// sameNode takes what is no number for the same, too.
func sameNode(a, b api.Node) bool {
	if math.IsNaN(a.Value.Real) && math.IsNaN(b.Value.Real) {
		a.Value.Real, b.Value.Real = 0, 0
	}
	return a == b
}

func sameExpr(a, b api.Expr) bool { return slices.EqualFunc(a.Nodes, b.Nodes, sameNode) }

func sameAct(a, b api.Act) bool {
	return a.Kind == b.Kind && sameExpr(a.To, b.To) && a.Name == b.Name && a.Var == b.Var && slices.EqualFunc(a.Args, b.Args, sameExpr)
}

func samePart(a, b api.Part) bool { return a.Tag == b.Tag && slices.Equal(a.Vars, b.Vars) }

func sameChord(a, b api.Chord) bool {
	return a.Name == b.Name && slices.EqualFunc(a.Parts, b.Parts, samePart) && sameExpr(a.Guard, b.Guard) && slices.EqualFunc(a.Body, b.Body, sameAct)
}

func sameKind(a, b api.Kind) bool {
	return a.Name == b.Name && slices.EqualFunc(a.Chords, b.Chords, sameChord)
}

func sameTag(a, b api.Tag) bool { return a.Name == b.Name && slices.Equal(a.Types, b.Types) }

func sameProgram(a, b api.Program) bool {
	return slices.EqualFunc(a.Tags, b.Tags, sameTag) && slices.EqualFunc(a.Kinds, b.Kinds, sameKind)
}

// answer is what a call answers.
type answer struct {
	text  string
	fault api.Errno
}

func answered(text string, fault api.Errno) answer { return answer{text, fault} }

func (a answer) String() string { return fmt.Sprintf("%.500q and %d", a.text, int(a.fault)) }

// wantAnswer holds what a call answered of a thing against what is wanted, and the reference with it.
func wantAnswer(t *testing.T, call string, got, reference, wanted answer, thing any) {
	t.Helper()
	if got != wanted {
		complain(t, "%s: %v; want %v; of %.500q", call, got, wanted, fmt.Sprintf("%+v", thing))
	}
	if reference != wanted {
		complain(t, "the reference of %s: %v; want %v; of %.500q", call, reference, wanted, fmt.Sprintf("%+v", thing))
	}
}

func wantProgram(t *testing.T, p api.Program, wanted answer) {
	t.Helper()
	wantAnswer(t, "Print", answered(print.Print(p)), refPrint(p), wanted, p)
}

func wantChord(t *testing.T, c api.Chord, wanted answer) {
	t.Helper()
	wantAnswer(t, "Chord", answered(print.Chord(c)), refChord(c), wanted, c)
}

func wantAct(t *testing.T, a api.Act, wanted answer) {
	t.Helper()
	wantAnswer(t, "Act", answered(print.Act(a)), refAct(a), wanted, a)
}

func wantText(t *testing.T, p api.Program, text string) {
	t.Helper()
	wantProgram(t, p, answer{text, api.OK})
}

func wantFault(t *testing.T, p api.Program, fault api.Errno) {
	t.Helper()
	wantProgram(t, p, answer{"", fault})
}

// around is a chord's text in a program that has nothing else.
func around(text string) string { return "kind k {\n\t" + text + "\n}\n" }

// aroundActs are acts' texts in a chord's.
func aroundActs(texts ...string) string {
	text := "chord c: p() {\n"
	for _, s := range texts {
		text += "\t\t" + s + "\n"
	}
	return text + "\t}"
}

// wantChordText holds a chord's text, alone and in a program.
func wantChordText(t *testing.T, c api.Chord, text string) {
	t.Helper()
	wantChord(t, c, answer{text, api.OK})
	wantText(t, kinds(kind("k", c)), around(text))
}

// wantChordFault holds a chord's error, alone and in a program.
func wantChordFault(t *testing.T, c api.Chord, fault api.Errno) {
	t.Helper()
	wantChord(t, c, answer{"", fault})
	wantFault(t, kinds(kind("k", c)), fault)
}

// wantActText holds an act's text, alone, in a chord and in a program.
func wantActText(t *testing.T, a api.Act, text string) {
	t.Helper()
	wantAct(t, a, answer{text, api.OK})
	wantChordText(t, withBody(a), aroundActs(text))
	wantChordText(t, withBody(become("k"), a, reply()), aroundActs("become k;", text, "reply();"))
}

// wantActFault holds an act's error, alone, in a chord and in a program, first and behind others.
func wantActFault(t *testing.T, a api.Act, fault api.Errno) {
	t.Helper()
	wantAct(t, a, answer{"", fault})
	wantChordFault(t, withBody(a), fault)
	wantChordFault(t, withBody(become("k"), a, reply()), fault)
}

// times is a text several times over.
func times(n int, text string) string { return strings.Repeat(text, n) }
