package print_test

import (
	"slices"
	"testing"

	"chordmail/api"
	"chordmail/expr"
	"chordmail/print"
)

const most = 32768

// long is a program of tags alone whose text has a length.
func long(length int) api.Program {
	var p api.Program
	for ; length > 80; length -= 40 {
		p.Tags = append(p.Tags, tag(times(32, "a")))
	}
	half := (length - 16) / 2
	p.Tags = append(p.Tags, tag(times(half, "b")), tag(times(length-16-half, "c")))
	return p
}

// P10.1: a text of as many bytes as a source may have, and of one more.
func TestLongPrograms(t *testing.T) {
	for _, length := range []int{most - 1, most} {
		p := long(length)
		text := programText(p)
		if len(text) != length {
			t.Fatalf("%d bytes", len(text))
		}
		wantText(t, p, text)
	}
	for _, length := range []int{most + 1, most + 2, most + 3, 2 * most, 40 * most} {
		wantFault(t, long(length), api.ErrLong)
	}
	// The byte too many stands in each of the pieces.
	p := api.Program{Tags: []api.Tag{tag("t", 1)}, Kinds: []api.Kind{kind("k", chord("c", part("p", "x")))}}
	p.Tags = append(p.Tags, long(most-len(programText(p))).Tags...)
	wantText(t, p, programText(p))
	for _, do := range []func(p *api.Program){
		func(p *api.Program) { p.Tags[0].Name = "tt" },
		func(p *api.Program) { p.Tags[0].Types[0] = api.Comp },
		func(p *api.Program) { p.Tags[0].Types = append(p.Tags[0].Types, api.Int) },
		func(p *api.Program) { p.Tags = append(p.Tags, tag("t")) },
		func(p *api.Program) { p.Kinds[0].Name = "kk" },
		func(p *api.Program) { p.Kinds = append(p.Kinds, kind("j")) },
		func(p *api.Program) { p.Kinds[0].Chords = append(p.Kinds[0].Chords, chord("d", part("p"))) },
		func(p *api.Program) { p.Kinds[0].Chords[0].Name = "cc" },
		func(p *api.Program) { p.Kinds[0].Chords[0].Parts[0].Tag = "pp" },
		func(p *api.Program) { p.Kinds[0].Chords[0].Parts[0].Vars[0] = "xx" },
		func(p *api.Program) { p.Kinds[0].Chords[0].Parts = append(p.Kinds[0].Chords[0].Parts, part("p")) },
		func(p *api.Program) { p.Kinds[0].Chords[0].Guard = of("x") },
		func(p *api.Program) { p.Kinds[0].Chords[0].Body = []api.Act{reply()} },
	} {
		wantFault(t, changed(p, do), api.ErrLong)
		q := changed(p, func(p *api.Program) { p.Tags = p.Tags[:len(p.Tags)-2] })
		wantText(t, changed(q, do), programText(changed(q, do)))
	}
}

// fitted is a chord whose text has a length: of many acts, the last one's name being as long as it has to be.
func fitted(t *testing.T, length int) api.Chord {
	t.Helper()
	c := withBody()
	for n := len(chordText(c)); n < length-27; n += len("\t\tspawn k as v;\n") {
		c.Body = append(c.Body, spawn("k", "v"))
	}
	c.Body = append(c.Body, become(""))
	c.Body[len(c.Body)-1].Name = times(length-len(chordText(c)), "k")
	return c
}

// P10.2: a chord's text of as many bytes as a source may have, and of one more; and as much in a program, where there is more around it.
func TestLongChords(t *testing.T) {
	for _, length := range []int{most - 1, most} {
		c := fitted(t, length)
		wantChord(t, c, answer{chordText(c), api.OK})
		wantFault(t, kinds(kind("k", c)), api.ErrLong)
	}
	for _, length := range []int{most + 1, most + 2, most + 20, 3 * most} {
		wantChordFault(t, fitted(t, length), api.ErrLong)
	}
	ahead := len(around(""))
	for _, length := range []int{most - ahead - 1, most - ahead} {
		c := fitted(t, length)
		wantChordText(t, c, chordText(c))
	}
	c := fitted(t, most-ahead+1)
	wantFault(t, kinds(kind("k", c)), api.ErrLong)
	wantChord(t, c, answer{chordText(c), api.OK})
}

// answers is a reply whose text has a length.
func answers(t *testing.T, length int) api.Act {
	t.Helper()
	a := reply()
	for n := length - len("reply();"); n > 0; {
		name := min(n, 30)
		if n-name == 1 || n-name == 2 { // a comma and a blank want a name behind them
			name -= 3
		}
		a.Args = append(a.Args, nodes(called(times(name, "x"))))
		n -= name + len(", ")
	}
	if n := len(actText(a)); n != length {
		t.Fatalf("%d bytes; want %d", n, length)
	}
	return a
}

// P10.3: an act's text that fits in a chord's, and one of more bytes than a source may have. One of as many as that is the act's own, but there is no room around it for the chord in which it would be read.
func TestLongAct(t *testing.T) {
	ahead := len(aroundActs("")) // more than the chord has that P10.3 names
	for _, length := range []int{8, 9, 100, most - ahead - 1, most - ahead} {
		a := answers(t, length)
		wantAct(t, a, answer{actText(a), api.OK})
	}
	for length := most - 12; length <= most; length++ {
		text, fault := print.Act(answers(t, length))
		if text != "" || fault != api.ErrDecl && fault != api.ErrLong {
			complain(t, "Act of %d bytes: %.100q, %v", length, text, fault)
		}
	}
	for _, length := range []int{most + 1, most + 2, most + 3, 2 * most, 9 * most} {
		wantAct(t, answers(t, length), answer{"", api.ErrLong})
	}
	wantChordText(t, withBody(answers(t, 30000)), aroundActs(actText(answers(t, 30000))))
}

// P10.1, P10.2, P10.3: expressions that make a text too long, each by itself or several together.
func TestLongExpressions(t *testing.T) {
	half := said(times(256, "\x00"))
	l := []api.Node{half}
	for range 5 {
		n := len(l)
		for _, x := range l[:n:n] {
			if x.Kind == api.NodeCat {
				x.A, x.B = x.A+n, x.B+n
			}
			l = append(l, x)
		}
		l = append(l, two(api.NodeCat, n-1, 2*n-1))
	}
	great := nodes(l...)
	if text, fault := expr.Print(great); len(text) < most || fault != api.OK {
		t.Fatal(len(text), fault)
	}
	wantChordFault(t, withGuard(great), api.ErrLong)
	wantActFault(t, api.Act{Kind: api.ActSend, To: great, Name: "t"}, api.ErrLong)
	wantActFault(t, api.Act{Kind: api.ActSend, To: of("1"), Name: "t", Args: []api.Expr{great}}, api.ErrLong)
	wantActFault(t, api.Act{Kind: api.ActReply, Args: []api.Expr{of("1"), great, great}}, api.ErrLong)
	c := withGuard(great)
	c.Body = []api.Act{{Kind: api.ActReply, Args: []api.Expr{great, signed(12)}}}
	wantChordFault(t, c, api.ErrDepth) // behind what is too long
	var many []api.Expr
	for range 33 {
		many = append(many, nodes(said(times(256, "\xff"))))
	}
	wantActFault(t, api.Act{Kind: api.ActReply, Args: many}, api.ErrLong)
	text := ""
	for _, e := range many[:30] {
		text += ", " + exprText(e)
	}
	wantActText(t, api.Act{Kind: api.ActReply, Args: many[:30]}, "reply("+text[2:]+");")
	// Of those that a Kind does not name there is no text.
	wantActFault(t, api.Act{Kind: api.ActReply, To: great}, api.ErrDecl)
	wantActFault(t, api.Act{Kind: api.ActBecome, Name: "k", Args: many}, api.ErrDecl)
	wantActFault(t, api.Act{Kind: api.ActReply, Name: times(40000, "n")}, api.ErrDecl)
	wantActFault(t, api.Act{Kind: api.ActSend, To: of("1"), Name: "t", Var: times(40000, "n")}, api.ErrDecl)
}

// P10.1: ErrLong ahead of ErrDecl.
func TestLongAheadOfDecl(t *testing.T) {
	for _, p := range []api.Program{
		tags(tag("kind")), tags(tag("a-")), tags(tag("a\n")), tags(tag(times(33, "a"))), tags(tag("a", 7, 3)), tags(tag("a", api.Bool)), tags(tag("a(); tag a")), kinds(kind("_")), kinds(kind("k {}\nkind j")),
		kinds(kind("k", chord("c"))), kinds(kind("k", chord("", part("p")))), kinds(kind("k", chord("c", part("p", "x y")))), kinds(kind("k", withBody(api.Act{Kind: api.ActReply, Var: "x"}))), kinds(kind("k", withBody(become("")))),
	} {
		p.Tags = append(p.Tags, long(most-len(programText(p))).Tags...)
		wantFault(t, p, api.ErrDecl)
		last := &p.Tags[len(p.Tags)-1].Name
		*last += "c"
		wantFault(t, p, api.ErrLong)
		*last = (*last)[2:]
		wantFault(t, p, api.ErrDecl)
	}
	name := times(40000, "n")
	wantFault(t, tags(tag(name)), api.ErrLong)
	wantFault(t, tags(tag("a", slices.Repeat([]int{api.Bool}, 10000)...)), api.ErrLong)
	wantFault(t, kinds(kind(name)), api.ErrLong)
	wantChordFault(t, chord(name, part("p")), api.ErrLong)
	wantChordFault(t, chord(name), api.ErrLong)
	wantChordFault(t, chord("c", part(name)), api.ErrLong)
	wantChordFault(t, chord("c", part("p", "x", name)), api.ErrLong)
	wantChordFault(t, chord("c", part("p", slices.Repeat([]string{"_ _"}, 10000)...)), api.ErrLong)
	wantActFault(t, become(name), api.ErrLong)
	wantActFault(t, spawn(name, "v"), api.ErrLong)
	wantActFault(t, spawn("k", name), api.ErrLong)
	wantActFault(t, send("1", name), api.ErrLong)
	wantActFault(t, become("k; # "+name), api.ErrLong)
	wantFault(t, kinds(kind("k # "+name)), api.ErrLong)
	for _, n := range []int{33, 34, 1000, 30000} {
		wantFault(t, tags(tag(times(n, "n"))), api.ErrDecl)
		wantChordFault(t, chord(times(n, "n"), part("p")), api.ErrDecl)
		wantActFault(t, become(times(n, "n")), api.ErrDecl)
	}
}
