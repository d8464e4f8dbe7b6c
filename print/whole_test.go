package print_test

import (
	"slices"
	"testing"

	"chordmail/api"
	"chordmail/print"
)

// roomy is a list with room behind it, in which something else stands.
func roomy[T any](l []T, other T) []T {
	made := append(append(make([]T, 0, len(l)+3), l...), other, other, other)
	return made[:len(l)]
}

func junkExpr() api.Expr { return nodes(called("junk"), whole(7), two(api.NodeAdd, 0, 1)) }

func roomyExpr(e api.Expr) api.Expr {
	return api.Expr{Nodes: roomy(e.Nodes, api.Node{Kind: api.NodeNeg, A: len(e.Nodes) - 1})}
}

func roomyAct(a api.Act) api.Act {
	a.To, a.Args = roomyExpr(a.To), roomy(cloned(a.Args, roomyExpr), junkExpr())
	return a
}

func roomyPart(p api.Part) api.Part { return part(p.Tag, roomy(p.Vars, "junk")...) }

func roomyChord(c api.Chord) api.Chord {
	c.Parts, c.Guard = roomy(cloned(c.Parts, roomyPart), part("junk", "junk")), roomyExpr(c.Guard)
	c.Body = roomy(cloned(c.Body, roomyAct), spawn("junk", "junk"))
	return c
}

func roomyKind(k api.Kind) api.Kind {
	return kind(k.Name, roomy(cloned(k.Chords, roomyChord), chord("junk", part("junk")))...)
}

func roomyTag(a api.Tag) api.Tag { return tag(a.Name, roomy(a.Types, api.Text)...) }

// roomyProgram is a program each of whose lists has room behind it, in which something else stands.
func roomyProgram(p api.Program) api.Program {
	return api.Program{Tags: roomy(cloned(p.Tags, roomyTag), tag("junk", api.Int)), Kinds: roomy(cloned(p.Kinds, roomyKind), kind("junk"))}
}

// The same with what stands in the room behind the lists.

func allOf[T any](l []T, one func(T) T) []T { return cloned(l[:cap(l)], one) }

func allOfExpr(e api.Expr) api.Expr { return nodes(slices.Clone(e.Nodes[:cap(e.Nodes)])...) }

func allOfAct(a api.Act) api.Act {
	a.To, a.Args = allOfExpr(a.To), allOf(a.Args, allOfExpr)
	return a
}

func allOfPart(p api.Part) api.Part { return part(p.Tag, slices.Clone(p.Vars[:cap(p.Vars)])...) }

func allOfChord(c api.Chord) api.Chord {
	c.Parts, c.Guard, c.Body = allOf(c.Parts, allOfPart), allOfExpr(c.Guard), allOf(c.Body, allOfAct)
	return c
}

func allOfKind(k api.Kind) api.Kind { return kind(k.Name, allOf(k.Chords, allOfChord)...) }

func allOfTag(a api.Tag) api.Tag { return tag(a.Name, slices.Clone(a.Types[:cap(a.Types)])...) }

func allOfProgram(p api.Program) api.Program {
	return api.Program{Tags: allOf(p.Tags, allOfTag), Kinds: allOf(p.Kinds, allOfKind)}
}

// ask are the answers of a program, its chords and its acts.
func ask(p api.Program) []answer {
	l := []answer{answered(print.Print(p))}
	for _, k := range p.Kinds {
		for _, c := range k.Chords {
			l = append(l, answered(print.Chord(c)))
			for _, a := range c.Body {
				l = append(l, answered(print.Act(a)))
			}
		}
	}
	return l
}

// samples are programs that have a text and such that have none, for each reason.
func samples(t *testing.T) []api.Program {
	t.Helper()
	p := parsed(t, slotsText)
	l := []api.Program{{}, p, tags(p.Tags...), kinds(p.Kinds...), long(most), long(most + 1), tags(tag("a(); tag b")), kinds(kind("k", chord("c")))}
	for _, w := range []wrong{{e: nodes(api.Node{Kind: 99})}, {e: signed(12)}, {e: sums(6)}} {
		for i := range slots(&p) {
			l = append(l, changed(p, func(p *api.Program) { *slots(p)[i] = w.e }))
		}
	}
	for i := range 100 {
		m := newMaker(600000 + i)
		l = append(l, m.program(), m.changed())
	}
	return l
}

// P10.5: what is handed in stays as it was, every list within it and the room behind them, too; and what stands in that room is not looked at.
func TestHandedIn(t *testing.T) {
	for _, p := range samples(t) {
		handed := roomyProgram(p)
		kept := allOfProgram(handed)
		got := ask(handed)
		if !sameProgram(allOfProgram(handed), kept) {
			complain(t, "what was handed in is changed: %+v", handed)
		}
		if wanted := ask(p); !slices.Equal(got, wanted) {
			complain(t, "%v with something in the room behind the lists; want %v", got, wanted)
		}
	}
}

// overwrite writes over all of a list, the room behind it, too.
func overwrite[T any](l []T, with T) {
	l = l[:cap(l)]
	for i := range l {
		l[i] = with
	}
}

func overwriteExpr(e api.Expr) { overwrite(e.Nodes, called("junk")) }

func overwriteChord(c api.Chord) {
	overwriteExpr(c.Guard)
	for _, a := range c.Body {
		overwriteExpr(a.To)
		for _, e := range a.Args {
			overwriteExpr(e)
		}
		overwrite(a.Args, junkExpr())
	}
	for _, x := range c.Parts {
		overwrite(x.Vars, "junk")
	}
	overwrite(c.Parts, part("junk", "junk"))
	overwrite(c.Body, reply())
}

// overwriteProgram writes over all lists of a program, from within.
func overwriteProgram(p api.Program) {
	for _, a := range p.Tags {
		overwrite(a.Types, api.Text)
	}
	for _, k := range p.Kinds {
		for _, c := range k.Chords {
			overwriteChord(c)
		}
		overwrite(k.Chords, chord("junk", part("junk")))
	}
	overwrite(p.Tags, tag("junk", api.Text))
	overwrite(p.Kinds, kind("junk"))
}

// P10.5: what is handed in is not kept: written over behind the call it changes nothing that was answered, and the next call answers of what stands there now.
func TestWrittenOver(t *testing.T) {
	for _, p := range samples(t) {
		handed := roomyProgram(p)
		got, wanted := ask(handed), ask(clonedProgram(p))
		overwriteProgram(handed)
		if !slices.Equal(got, wanted) {
			complain(t, "%v with the program written over; want %v", got, wanted)
		}
		if again, now := ask(handed), ask(clonedProgram(handed)); !slices.Equal(again, now) {
			complain(t, "%v of a program that was written over; want %v", again, now)
		}
		wantProgram(t, handed, refPrint(handed))
		if again := ask(p); !slices.Equal(again, wanted) {
			complain(t, "%v; want %v", again, wanted)
		}
	}
}

// P10.5: lists that are one and the same within a program, or reach into one another, are told like any others.
func TestSharedLists(t *testing.T) {
	e, names, types := of("x + 1"), []string{"x", "y", "_", "z"}, []int{1, 2, 3, 4}
	c := chord("c", part("p", names[:2]...), part("p", names[1:]...), part("q", names...))
	c.Guard = e
	c.Body = []api.Act{{Kind: api.ActSend, To: e, Name: "p", Args: []api.Expr{e, e, {Nodes: e.Nodes[:1]}}}, {Kind: api.ActReply, Args: []api.Expr{{Nodes: e.Nodes[1:2]}, e}}}
	const text = "chord c: p(x, y) & p(y, _, z) & q(x, y, _, z) when x + 1 {\n\t\tsend x + 1 p(x + 1, x + 1, x);\n\t\treply(1, x + 1);\n\t}"
	wantChordText(t, c, text)
	wantText(t, api.Program{Tags: []api.Tag{tag("a", types...), tag("b", types[1:3]...)}, Kinds: []api.Kind{kind("k", c, c), kind("k", c)}}, "tag a(int, real, comp, text);\ntag b(real, comp);\nkind k {\n\t"+text+"\n\t"+text+"\n}\nkind k {\n\t"+text+"\n}\n")
}

// P10.5: nothing is kept from call to call: a call answers the same behind others, whatever these answered.
func TestNothingKept(t *testing.T) {
	l := samples(t)
	first := cloned(l, ask)
	for i, p := range l {
		for _, j := range []int{0, 1, 4, 5, 6, len(l) - 1 - i} {
			ask(l[j])
			if again := ask(p); !slices.Equal(again, first[i]) {
				complain(t, "%v behind another program; want %v", again, first[i])
			}
		}
	}
}
