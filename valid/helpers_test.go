package valid_test

import (
	"fmt"
	"slices"
	"strings"
	"testing"

	"chordmail/api"
	"chordmail/decl"
	"chordmail/expr"
	"chordmail/valid"
)

// complain tells what is wrong, shortened: some programs are long.
func complain(t *testing.T, format string, of ...any) {
	t.Helper()
	said := strings.ToValidUTF8(fmt.Sprintf(format, of...), "?")
	if len(said) > 1200 {
		said = said[:1200] + ".."
	}
	t.Error(said)
}

// told is a program's text, whatever there is in it.
func told(p api.Program) string {
	said := fmt.Sprintf("%+v", p.Tags)
	for _, k := range p.Kinds {
		said += fmt.Sprintf("; kind %q {", k.Name)
		for _, c := range k.Chords {
			said += fmt.Sprintf(" chord %q: %+v when %s { ", c.Name, c.Parts, toldExpr(c.Guard))
			for _, a := range c.Body {
				said += fmt.Sprintf("%d %s %q %q %v; ", a.Kind, toldExpr(a.To), a.Name, a.Var, cloned(a.Args, toldExpr))
			}
			said += "}"
		}
		said += " }"
	}
	return said
}

func toldExpr(e api.Expr) string {
	if text, fault := expr.Print(e); fault == api.OK {
		return text
	}
	return fmt.Sprintf("%+v", e.Nodes[:min(len(e.Nodes), 5)])
}

// parsed must be given a program's text.
func parsed(t *testing.T, text string) api.Program {
	t.Helper()
	p, at, fault := decl.Parse([]byte(text))
	if fault != api.OK {
		t.Fatalf("Parse of %.200q: %d, %v", text, at, fault)
	}
	return p
}

func tag(name string, types ...int) api.Tag { return api.Tag{Name: name, Types: types} }

func part(name string, vars ...string) api.Part { return api.Part{Tag: name, Vars: vars} }

func chord(name string, parts ...api.Part) api.Chord { return api.Chord{Name: name, Parts: parts} }

func kind(name string, chords ...api.Chord) api.Kind { return api.Kind{Name: name, Chords: chords} }

// of must be given an expression's text.
func of(text string) api.Expr {
	e, _, fault := expr.Parse([]byte(text))
	if fault != api.OK {
		panic(text)
	}
	return e
}

func exprs(texts ...string) []api.Expr {
	var l []api.Expr
	for _, text := range texts {
		l = append(l, of(text))
	}
	return l
}

func send(to, name string, args ...string) api.Act {
	return api.Act{Kind: api.ActSend, To: of(to), Name: name, Args: exprs(args...)}
}

func spawn(name, v string) api.Act { return api.Act{Kind: api.ActSpawn, Name: name, Var: v} }

func reply(args ...string) api.Act { return api.Act{Kind: api.ActReply, Args: exprs(args...)} }

func become(name string) api.Act { return api.Act{Kind: api.ActBecome, Name: name} }

// nodes is an expression by its nodes.
func nodes(l ...api.Node) api.Expr { return api.Expr{Nodes: l} }

func whole(n int64) api.Node {
	return api.Node{Kind: api.NodeValue, Value: api.Value{Kind: api.Int, Int: n}}
}

func called(name string) api.Node { return api.Node{Kind: api.NodeVar, Name: name} }

func one(kind, a int) api.Node { return api.Node{Kind: kind, A: a} }

func two(kind, a, b int) api.Node { return api.Node{Kind: kind, A: a, B: b} }

// cloned is a list of what one makes of each thing of a list.
func cloned[T, U any](l []T, one func(T) U) []U {
	var made []U
	for _, x := range l {
		made = append(made, one(x))
	}
	return made
}

func clonedExpr(e api.Expr) api.Expr { return api.Expr{Nodes: slices.Clone(e.Nodes)} }

func clonedAct(a api.Act) api.Act {
	a.To, a.Args = clonedExpr(a.To), cloned(a.Args, clonedExpr)
	return a
}

func clonedPart(p api.Part) api.Part {
	p.Vars = slices.Clone(p.Vars)
	return p
}

func clonedChord(c api.Chord) api.Chord {
	c.Parts, c.Guard, c.Body = cloned(c.Parts, clonedPart), clonedExpr(c.Guard), cloned(c.Body, clonedAct)
	return c
}

func clonedKind(k api.Kind) api.Kind {
	k.Chords = cloned(k.Chords, clonedChord)
	return k
}

func clonedTag(a api.Tag) api.Tag {
	a.Types = slices.Clone(a.Types)
	return a
}

func clonedProgram(p api.Program) api.Program {
	return api.Program{Tags: cloned(p.Tags, clonedTag), Kinds: cloned(p.Kinds, clonedKind)}
}

// changed is a program of its own to which something was done.
func changed(p api.Program, do func(p *api.Program)) api.Program {
	p = clonedProgram(p)
	do(&p)
	return p
}

func sameExpr(a, b api.Expr) bool { return slices.Equal(a.Nodes, b.Nodes) }

func sameAct(a, b api.Act) bool {
	return a.Kind == b.Kind && sameExpr(a.To, b.To) && a.Name == b.Name && a.Var == b.Var && slices.EqualFunc(a.Args, b.Args, sameExpr)
}

func samePart(a, b api.Part) bool { return a.Tag == b.Tag && slices.Equal(a.Vars, b.Vars) }

func sameChord(a, b api.Chord) bool {
	return a.Name == b.Name && slices.EqualFunc(a.Parts, b.Parts, samePart) && sameExpr(a.Guard, b.Guard) && slices.EqualFunc(a.Body, b.Body, sameAct)
}

func sameKind(a, b api.Kind) bool {
	return a.Name == b.Name && slices.EqualFunc(a.Chords, b.Chords, sameChord)
}

func sameTag(a, b api.Tag) bool { return a.Name == b.Name && slices.Equal(a.Types, b.Types) }

func sameProgram(a, b api.Program) bool {
	return slices.EqualFunc(a.Tags, b.Tags, sameTag) && slices.EqualFunc(a.Kinds, b.Kinds, sameKind)
}

// wantBreach holds Check of a program against a place and an error, and the reference with it.
func wantBreach(t *testing.T, p api.Program, at valid.Place, fault api.Errno) {
	t.Helper()
	place, found := valid.Check(p)
	if place != at || found != fault {
		complain(t, "Check: %+v, %v; want %+v, %v; of %s", place, found, at, fault, told(p))
	}
	if place, found = reference(p); place != at || found != fault {
		complain(t, "the reference: %+v, %v; want %+v, %v; of %s", place, found, at, fault, told(p))
	}
}

func wantMay(t *testing.T, p api.Program) {
	t.Helper()
	wantBreach(t, p, valid.Place{}, api.OK)
}

// wantReference holds Check of a program against the reference, and answers what is told.
func wantReference(t *testing.T, p api.Program) (valid.Place, api.Errno) {
	t.Helper()
	at, fault := reference(p)
	if place, found := valid.Check(p); place != at || found != fault {
		complain(t, "Check: %+v, %v; want %+v, %v; of %s", place, found, at, fault, told(p))
	}
	return at, fault
}

// exampleTags are the tags of the chapter's examples.
const exampleTags = "tag inc(int, text); tag ping(); "

// inPart is a program of one chord, whose parts, guard and body are told.
func inPart(t *testing.T, parts string) api.Program {
	t.Helper()
	return parsed(t, exampleTags+"kind k { chord c: "+parts+" }")
}

// inBody is a program of one chord, whose acts are told. It has a variable of each type.
func inBody(t *testing.T, acts string) api.Program {
	t.Helper()
	return parsed(t, exampleTags+"tag all(int, real, comp, text); kind k { chord c: all(n, x, z, t) { "+acts+" } } kind j { }")
}

// times is a text several times over.
func times(n int, text string) string { return strings.Repeat(text, n) }
