package valid_test

import (
	"slices"
	"testing"
	"unsafe"

	"chordmail/api"
	"chordmail/valid"
)

// roomy is a list with room behind it, in which something else stands.
func roomy[T any](l []T, other T) []T {
	made := make([]T, 0, len(l)+3)
	made = append(append(made, l...), other, other, other)
	return made[:len(l)]
}

func junkExpr() api.Expr { return nodes(called("junk"), whole(7), two(api.NodeAdd, 0, 1)) }

func roomyExpr(e api.Expr) api.Expr {
	return api.Expr{Nodes: roomy(e.Nodes, api.Node{Kind: api.NodeNeg, A: len(e.Nodes) - 1})}
}

func roomyAct(a api.Act) api.Act {
	a.To, a.Args = roomyExpr(a.To), roomy(cloned(a.Args, roomyExpr), junkExpr())
	return a
}

func roomyChord(c api.Chord) api.Chord {
	c.Parts = roomy(cloned(c.Parts, func(p api.Part) api.Part { return part(p.Tag, roomy(p.Vars, "junk")...) }), part("junk", "junk"))
	c.Guard = roomyExpr(c.Guard)
	c.Body = roomy(cloned(c.Body, roomyAct), spawn("junk", "junk"))
	return c
}

func roomyKind(k api.Kind) api.Kind {
	return kind(k.Name, roomy(cloned(k.Chords, roomyChord), chord("junk", part("junk")))...)
}

// roomyProgram is a program each of whose lists has room behind it, in which something else stands.
func roomyProgram(p api.Program) api.Program {
	tags := cloned(p.Tags, func(t api.Tag) api.Tag { return tag(t.Name, roomy(t.Types, api.Text)...) })
	return api.Program{Tags: roomy(tags, tag("junk", api.Int)), Kinds: roomy(cloned(p.Kinds, roomyKind), kind("junk"))}
}

// The same with what stands in the room behind the lists.

func allOf[T any](l []T, one func(T) T) []T { return cloned(l[:cap(l)], one) }

func allOfExpr(e api.Expr) api.Expr { return nodes(e.Nodes[:cap(e.Nodes)]...) }

func allOfAct(a api.Act) api.Act {
	a.To, a.Args = allOfExpr(a.To), allOf(a.Args, allOfExpr)
	return a
}

func allOfChord(c api.Chord) api.Chord {
	c.Parts = allOf(c.Parts, func(p api.Part) api.Part { return part(p.Tag, p.Vars[:cap(p.Vars)]...) })
	c.Guard, c.Body = allOfExpr(c.Guard), allOf(c.Body, allOfAct)
	return c
}

func allOfProgram(p api.Program) api.Program {
	tags := allOf(p.Tags, func(t api.Tag) api.Tag { return tag(t.Name, t.Types[:cap(t.Types)]...) })
	kinds := allOf(p.Kinds, func(k api.Kind) api.Kind { return kind(k.Name, allOf(k.Chords, allOfChord)...) })
	return api.Program{Tags: tags, Kinds: kinds}
}

// answers are what all calls answer.
type answers struct {
	at     valid.Place
	fault  api.Errno
	fields [][]api.Field
	tag    int
	kind   int
	is     [2]bool
}

func ask(p api.Program, name string) answers {
	var a answers
	a.at, a.fault = valid.Check(p)
	for _, k := range p.Kinds {
		for _, c := range k.Chords {
			a.fields = append(a.fields, valid.Fields(p, c))
		}
	}
	a.tag, a.is[0] = valid.Tag(p, name)
	a.kind, a.is[1] = valid.Kind(p, name)
	return a
}

func (a answers) same(b answers) bool {
	fields := slices.EqualFunc(a.fields, b.fields, func(x, y []api.Field) bool { return slices.Equal(x, y) })
	return a.at == b.at && a.fault == b.fault && fields && a.tag == b.tag && a.kind == b.kind && a.is == b.is
}

// samples are programs that may be, and such with each breach of TestOrder.
func samples(t *testing.T) []api.Program {
	p := parsed(t, orderText)
	l := []api.Program{p, fullest(), {}, {Tags: p.Tags}, {Kinds: p.Kinds}}
	for _, b := range slices.Concat(breachesOfTags(), breachesOfParts(), breachesOfActs()) {
		l = append(l, changed(p, b.do))
	}
	for i := range 50 {
		l = append(l, newMaker(9000+i).program())
	}
	return l
}

// P9.7: what is handed in stays as it was, every list within it and the room behind them, too; and what stands in that room is not looked at.
func TestHandedIn(t *testing.T) {
	for _, p := range samples(t) {
		for _, name := range []string{"junk", "x", "b", "j", ""} {
			handed := roomyProgram(p)
			kept := allOfProgram(handed)
			got := ask(handed, name)
			if !sameProgram(allOfProgram(handed), kept) {
				complain(t, "what was handed in is changed: %s", told(handed))
			}
			if wanted := ask(p, name); !got.same(wanted) {
				complain(t, "%+v with something in the room behind the lists; want %+v: %s", got, wanted, told(p))
			}
		}
	}
}

// overwrite writes over all of a list, the room behind it, too.
func overwrite[T any](l []T, with T) {
	l = l[:cap(l)]
	for i := range l {
		l[i] = with
	}
}

// overwriteProgram writes over all lists of a program, from within.
func overwriteProgram(p api.Program) {
	for _, t := range p.Tags {
		overwrite(t.Types, api.Text)
	}
	for _, k := range p.Kinds {
		for _, c := range k.Chords {
			overwrite(c.Guard.Nodes, api.Node{Kind: 9})
			for _, a := range c.Body {
				for _, e := range a.Args {
					overwrite(e.Nodes, api.Node{Kind: 9})
				}
				overwrite(a.To.Nodes, api.Node{Kind: 9})
				overwrite(a.Args, junkExpr())
			}
			for _, x := range c.Parts {
				overwrite(x.Vars, "junk")
			}
			overwrite(c.Parts, part("junk", "junk"))
			overwrite(c.Body, reply())
		}
		overwrite(k.Chords, chord("junk"))
	}
	overwrite(p.Tags, tag("junk", 9))
	overwrite(p.Kinds, kind("junk"))
}

// P9.7: what is handed in is not kept: written over behind the call it changes nothing that was answered, and the next call answers of what stands there now.
func TestWrittenOver(t *testing.T) {
	for _, p := range samples(t) {
		handed := roomyProgram(p)
		got, wanted := ask(handed, "x"), ask(clonedProgram(p), "x")
		overwriteProgram(handed)
		if !got.same(wanted) {
			complain(t, "%+v with the program written over; want %+v: %s", got, wanted, told(p))
		}
		if again, now := ask(handed, "x"), ask(clonedProgram(handed), "x"); !again.same(now) {
			complain(t, "%+v of a program that was written over; want %+v", again, now)
		}
		if again := ask(p, "x"); !again.same(wanted) {
			complain(t, "%+v; want %+v: %s", again, wanted, told(p))
		}
	}
}

// P9.7: the list that Fields answers is memory of its own, its room and its names, too.
func TestOwnFields(t *testing.T) {
	p := roomyProgram(parsed(t, "tag a(int, text, real); tag b(); kind k { chord c: a(n, t, x) & b() & a(_, long_name, y) { spawn k as v; reply(v); } chord d: b() { } chord e: a(n, _, _) { } }"))
	chords := p.Kinds[0].Chords
	wanted := ask(p, "a").fields
	junk := field("junk", 9)
	for i, c := range chords {
		one, other := valid.Fields(p, c), valid.Fields(p, c)
		longer := append(one, junk, junk)
		for range 20 {
			longer = append(longer, junk)
		}
		overwrite(one, junk)
		if !slices.Equal(other, wanted[i]) || !slices.Equal(append(other, junk), append(slices.Clone(wanted[i]), junk)) {
			complain(t, "an answer changes with another: %+v", other)
		}
		wantMay(t, p)
		for j, d := range chords {
			if l := valid.Fields(p, d); !slices.Equal(l, wanted[j]) {
				complain(t, "a later answer: %+v; want %+v", l, wanted[j])
			}
		}
		wantApart(t, one, other)
		wantApart(t, one, valid.Fields(p, c))
	}
	if !sameProgram(p, parsed(t, "tag a(int, text, real); tag b(); kind k { chord c: a(n, t, x) & b() & a(_, long_name, y) { spawn k as v; reply(v); } chord d: b() { } chord e: a(n, _, _) { } }")) {
		complain(t, "the program changes with the answers: %s", told(p))
	}

	given := chords[0].Parts[2].Vars[1]
	l := valid.Fields(p, chords[0])
	if f := l[4]; f.Name != given || unsafe.StringData(f.Name) == unsafe.StringData(given) {
		t.Errorf("the name %q is the memory that was handed in", f.Name)
	}
}

// wantApart holds that two lists share no memory, nor do the rooms behind them.
func wantApart(t *testing.T, a, b []api.Field) {
	t.Helper()
	begin := func(l []api.Field) uintptr { return uintptr(unsafe.Pointer(unsafe.SliceData(l))) }
	end := func(l []api.Field) uintptr { return begin(l) + uintptr(cap(l))*unsafe.Sizeof(api.Field{}) }
	if begin(a) < end(b) && begin(b) < end(a) {
		t.Errorf("two lists share memory")
	}
}

// P9.7: lists that are nil and empty ones are the same.
func TestEmptyLists(t *testing.T) {
	for _, p := range samples(t) {
		q := changed(p, func(p *api.Program) {
			for i := range p.Tags {
				p.Tags[i].Types = orEmpty(p.Tags[i].Types)
			}
			for i := range p.Kinds {
				p.Kinds[i].Chords = orEmpty(p.Kinds[i].Chords)
				for j := range p.Kinds[i].Chords {
					c := &p.Kinds[i].Chords[j]
					c.Parts, c.Guard.Nodes, c.Body = orEmpty(c.Parts), orEmpty(c.Guard.Nodes), orEmpty(c.Body)
					for x := range c.Parts {
						c.Parts[x].Vars = orEmpty(c.Parts[x].Vars)
					}
					for x := range c.Body {
						c.Body[x].To.Nodes, c.Body[x].Args = orEmpty(c.Body[x].To.Nodes), orEmpty(c.Body[x].Args)
					}
				}
			}
			p.Tags, p.Kinds = orEmpty(p.Tags), orEmpty(p.Kinds)
		})
		if got, wanted := ask(q, "x"), ask(p, "x"); !got.same(wanted) {
			complain(t, "%+v with empty lists; want %+v: %s", got, wanted, told(p))
		}
	}
}

func orEmpty[T any](l []T) []T {
	if l == nil {
		return []T{}
	}
	return l
}
