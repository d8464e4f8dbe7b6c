package valid_test

import (
	"fmt"
	"math"
	"slices"
	"testing"

	"chordmail/api"
	"chordmail/valid"
)

// made is a list of n things that are made of their numbers.
func made[T any](n int, one func(i int) T) []T {
	var l []T
	for i := range n {
		l = append(l, one(i))
	}
	return l
}

func tagsOf(n int) []api.Tag {
	return made(n, func(i int) api.Tag { return tag(fmt.Sprint("t", i)) })
}

func kindsOf(n int) []api.Kind {
	return made(n, func(i int) api.Kind { return kind(fmt.Sprint("k", i)) })
}

func chordsOf(n int) []api.Chord {
	return made(n, func(i int) api.Chord { return chord(fmt.Sprint("c", i), part("t0")) })
}

// P9.1: how many tags and kinds there may be.
func TestTagsKinds(t *testing.T) {
	for _, n := range []int{1, 2, 32, 33, 63, 64} {
		wantMay(t, api.Program{Tags: tagsOf(n), Kinds: kindsOf(1)})
	}
	for _, n := range []int{0, 65, 66, 100, 128, 256, 1000} {
		wantBreach(t, api.Program{Tags: tagsOf(n), Kinds: kindsOf(1)}, valid.Place{In: valid.InTags}, api.ErrTags)
	}
	for _, n := range []int{1, 2, 31, 32} {
		wantMay(t, api.Program{Tags: tagsOf(1), Kinds: kindsOf(n)})
	}
	for _, n := range []int{0, 33, 34, 64, 256, 1000} {
		wantBreach(t, api.Program{Tags: tagsOf(64), Kinds: kindsOf(n)}, valid.Place{In: valid.InKinds}, api.ErrKinds)
	}
	for _, p := range []api.Program{{}, {Tags: []api.Tag{}, Kinds: []api.Kind{}}, {Kinds: kindsOf(1)}, {Kinds: kindsOf(33)}} {
		wantBreach(t, p, valid.Place{In: valid.InTags}, api.ErrTags)
	}
	for _, p := range []api.Program{{Tags: tagsOf(1)}, {Tags: tagsOf(64), Kinds: []api.Kind{}}} {
		wantBreach(t, p, valid.Place{In: valid.InKinds}, api.ErrKinds)
	}
}

// P9.1: how many chords a kind, parts a chord, acts a body may have; of each kind and chord, and none of what may lack.
func TestLengths(t *testing.T) {
	kindAt := func(k int, l ...api.Chord) api.Program {
		p := api.Program{Tags: tagsOf(2), Kinds: kindsOf(4)}
		p.Kinds[k].Chords = l
		return p
	}
	parts := func(n int) []api.Part { return made(n, func(i int) api.Part { return part(fmt.Sprint("t", i%2)) }) }
	for k := range 4 {
		for _, n := range []int{0, 1, 11, 12} {
			wantMay(t, kindAt(k, chordsOf(n)...))
			l := chordsOf(2)
			l[1].Body = slices.Repeat([]api.Act{reply(), become("k3")}, 6)[:n]
			wantMay(t, kindAt(k, l...))
		}
		for _, n := range []int{13, 14, 16, 256, 1000} {
			wantBreach(t, kindAt(k, chordsOf(n)...), valid.Place{In: valid.InKind, Kind: k}, api.ErrChords)
			l := chordsOf(2)
			l[1].Body = slices.Repeat([]api.Act{reply()}, n)
			wantBreach(t, kindAt(k, l...), valid.Place{In: valid.InBody, Kind: k, Chord: 1}, api.ErrBody)
			l[0].Body = l[1].Body
			wantBreach(t, kindAt(k, l...), valid.Place{In: valid.InBody, Kind: k}, api.ErrBody)
		}
		for n := 1; n <= 4; n++ {
			wantMay(t, kindAt(k, chord("c", parts(n)...), chord("d", parts(5-n)...)))
		}
		for _, n := range []int{0, 5, 6, 256, 1000} {
			wantBreach(t, kindAt(k, chord("c", parts(n)...)), valid.Place{In: valid.InChord, Kind: k}, api.ErrParts)
			wantBreach(t, kindAt(k, chord("c", parts(1)...), chord("d", parts(4)...), chord("e", parts(n)...)), valid.Place{In: valid.InChord, Kind: k, Chord: 2}, api.ErrParts)
		}
	}
	wantBreach(t, kindAt(2, api.Chord{Name: "c", Parts: []api.Part{}}), valid.Place{In: valid.InChord, Kind: 2}, api.ErrParts)
}

// P9.1: how many fields a tag may have, and of which types.
func TestTypes(t *testing.T) {
	with := func(types ...int) api.Program {
		return api.Program{Tags: []api.Tag{tag("a"), tag("b", 1, 2, 3, 4), tag("c", types...), tag("d", 4)}, Kinds: kindsOf(1)}
	}
	at := valid.Place{In: valid.InTag, Tag: 2}
	for n := range 7 {
		for kind := api.Int; kind <= api.Text; kind++ {
			wantMay(t, with(slices.Repeat([]int{kind}, n)...))
		}
		for i := range n {
			for _, wrong := range []int{api.Bool, 0, -1, 6, 7, 8, 17, 255, 256, 257, 1<<32 + 1, 1<<63 - 1, math.MinInt, math.MinInt + 1} {
				l := slices.Repeat([]int{api.Int, api.Text}, 3)[:n]
				l[i] = wrong
				wantBreach(t, with(l...), at, api.ErrFields)
			}
		}
	}
	for _, n := range []int{7, 8, 12, 64, 1000} {
		wantBreach(t, with(slices.Repeat([]int{api.Comp}, n)...), at, api.ErrFields)
	}
	for i := range 4 {
		p := with()
		p.Tags[i].Types = []int{api.Bool}
		wantBreach(t, p, valid.Place{In: valid.InTag, Tag: i}, api.ErrFields)
	}
}

// P9.1: a part's tag, and how many Vars it has: of tags without fields and with all that may be.
func TestParts(t *testing.T) {
	tags := []api.Tag{tag("t0")}
	for n := 1; n <= 6; n++ {
		tags = append(tags, tag(fmt.Sprint("t", n), slices.Repeat([]int{api.Int, api.Text, api.Comp}, 2)[:n]...))
	}
	vars := func(n int) []string { return made(n, func(i int) string { return fmt.Sprint("v", i) }) }
	blanks := func(n int) []string { return slices.Repeat([]string{"_"}, n) }
	for n := range tags {
		for m := range 9 {
			for i := range 4 {
				l := slices.Repeat([]api.Part{part("t1", "_")}, 4)
				l[i] = part(tags[n].Name, vars(m)...)
				p := api.Program{Tags: tags, Kinds: []api.Kind{kind("k"), kind("l", chord("a", part("t0")), chord("b", l...))}}
				q := clonedProgram(p)
				q.Kinds[1].Chords[1].Parts[i].Vars = blanks(m)
				if at := (valid.Place{In: valid.InPart, Kind: 1, Chord: 1, Part: i}); n == m {
					wantMay(t, p)
					wantMay(t, q)
				} else {
					wantBreach(t, p, at, api.ErrFields)
					wantBreach(t, q, at, api.ErrFields)
				}
			}
		}
	}
	for _, name := range []string{"", "t", "t7", "T1", "t1 ", "t11", "_", "k", "b", "v0", "self", "tag"} {
		for i := range 4 {
			l := slices.Repeat([]api.Part{part("t1", "_")}, 4)
			l[i].Tag = name
			p := api.Program{Tags: tags, Kinds: []api.Kind{kind("k", chord("a", part("t0")), chord("b", l...)), kind("l")}}
			wantBreach(t, p, valid.Place{In: valid.InPart, Chord: 1, Part: i}, api.ErrNoTag)
			p.Kinds[0].Chords[1].Parts[i].Vars = nil
			wantBreach(t, p, valid.Place{In: valid.InPart, Chord: 1, Part: i}, api.ErrNoTag)
		}
	}
}

// fullest is a program that has as much of everything as may be, with names as long as may be.
func fullest() api.Program {
	long := func(ahead string, i int) string { return (ahead + fmt.Sprint(i, "_") + times(32, "x"))[:api.MaxName] }
	six := []int{1, 2, 3, 4, 1, 4}
	p := api.Program{Tags: made(api.MaxTags, func(i int) api.Tag { return tag(long("t", i), six...) })}
	var parts []api.Part
	for i := range api.MaxParts {
		parts = append(parts, part(long("t", 63-i), made(api.MaxFields, func(j int) string { return long("v", 10*i+j) })...))
	}
	product := "(" + long("v", 0) + " + self) * (" + long("v", 4) + " + " + long("v", 30) + ")"
	half := "(" + product + " - " + product + ") < (" + product + " - " + product + ")"
	guard := of("!(" + half + " && " + half + ")")
	var body []api.Act
	for i := range api.MaxBody {
		switch i % 4 {
		case 0:
			body = append(body, spawn(long("k", 30-i), long("w", i)))
		case 1:
			body = append(body, send(long("w", i-1), long("t", i), "self", long("v", 31), long("v", 12), long("v", 5), long("w", 0), `"a"`))
		case 2:
			body = append(body, reply(times(11, "-")+long("w", 0), long("v", 1), long("v", 2), long("v", 3), long("w", i-2), long("v", 35)))
		default:
			body = append(body, become(long("k", i)))
		}
	}
	one := func(i int) api.Chord {
		return clonedChord(api.Chord{Name: long("c", i), Parts: parts, Guard: guard, Body: body})
	}
	p.Kinds = made(api.MaxKinds, func(i int) api.Kind { return kind(long("k", i), made(api.MaxChords, one)...) })
	return p
}

// P9.1: each bound kept to the full, all at once; and one passed by one in the last of its places.
func TestFullest(t *testing.T) {
	p := fullest()
	wantMay(t, p)
	if n := len(p.Kinds[31].Chords[11].Guard.Nodes); n != api.MaxNodes {
		t.Errorf("%d nodes", n)
	}
	last := valid.Place{Kind: 31, Chord: 11}
	in := func(in int) valid.Place {
		at := last
		at.In = in
		return at
	}
	for _, c := range []struct {
		do    func(p *api.Program, c *api.Chord)
		at    valid.Place
		fault api.Errno
	}{
		{func(p *api.Program, c *api.Chord) { p.Tags = append(p.Tags, tag("more")) }, valid.Place{In: valid.InTags}, api.ErrTags},
		{func(p *api.Program, c *api.Chord) { p.Kinds = append(p.Kinds, kind("more")) }, valid.Place{In: valid.InKinds}, api.ErrKinds},
		{func(p *api.Program, c *api.Chord) { p.Tags[63].Types = append(p.Tags[63].Types, 1) }, valid.Place{In: valid.InTag, Tag: 63}, api.ErrFields},
		{func(p *api.Program, c *api.Chord) { p.Tags[63].Name += "x" }, valid.Place{In: valid.InTag, Tag: 63}, api.ErrName},
		{func(p *api.Program, c *api.Chord) {
			p.Kinds[31].Chords = append(p.Kinds[31].Chords, chord("more", part("t0")))
		}, valid.Place{In: valid.InKind, Kind: 31}, api.ErrChords},
		{func(p *api.Program, c *api.Chord) { p.Kinds[31].Name += "x" }, valid.Place{In: valid.InKind, Kind: 31}, api.ErrName},
		{func(p *api.Program, c *api.Chord) { c.Name += "x" }, in(valid.InChord), api.ErrName},
		{func(p *api.Program, c *api.Chord) { c.Parts = append(c.Parts, part("more")) }, in(valid.InChord), api.ErrParts},
		{func(p *api.Program, c *api.Chord) { c.Parts[3].Vars[5] += "x" }, valid.Place{In: valid.InVar, Kind: 31, Chord: 11, Part: 3, Arg: 5}, api.ErrName},
		{func(p *api.Program, c *api.Chord) { c.Parts[3].Vars[5] = c.Parts[0].Vars[0] }, valid.Place{In: valid.InVar, Kind: 31, Chord: 11, Part: 3, Arg: 5}, api.ErrTwice},
		{func(p *api.Program, c *api.Chord) { c.Body = append(c.Body, reply()) }, in(valid.InBody), api.ErrBody},
		{func(p *api.Program, c *api.Chord) { c.Body[8].Var += "x" }, valid.Place{In: valid.InAct, Kind: 31, Chord: 11, Act: 8}, api.ErrName},
		{func(p *api.Program, c *api.Chord) { c.Body[10].Args = append(c.Body[10].Args, of("1")) }, valid.Place{In: valid.InAct, Kind: 31, Chord: 11, Act: 10}, api.ErrFields},
		{func(p *api.Program, c *api.Chord) { c.Body[9].Args[5] = of("1") }, valid.Place{In: valid.InArg, Kind: 31, Chord: 11, Act: 9, Arg: 5}, api.ErrType},
		{func(p *api.Program, c *api.Chord) { c.Body[10].Args[5] = of("!true") }, valid.Place{In: valid.InArg, Kind: 31, Chord: 11, Act: 10, Arg: 5}, api.ErrType},
		{func(p *api.Program, c *api.Chord) { c.Body[11].Name = "k" }, valid.Place{In: valid.InAct, Kind: 31, Chord: 11, Act: 11}, api.ErrNoKind},
	} {
		q := clonedProgram(p)
		c.do(&q, &q.Kinds[31].Chords[11])
		wantBreach(t, q, c.at, c.fault)
	}
}

// P9.1, P0.1: lists and names that are far longer than may be are told as soon as shorter ones.
func TestHuge(t *testing.T) {
	const n = 1 << 20
	long := times(n, "n")
	want := func(p api.Program, wanted valid.Place, fault api.Errno) {
		t.Helper()
		if at, found := valid.Check(p); at != wanted || found != fault {
			t.Errorf("%+v, %v; want %+v, %v", at, found, wanted, fault)
		}
	}
	p := api.Program{Tags: tagsOf(2), Kinds: []api.Kind{kind("k", chord("c", part("t0")))}}
	want(api.Program{Tags: make([]api.Tag, n), Kinds: p.Kinds}, valid.Place{In: valid.InTags}, api.ErrTags)
	want(api.Program{Tags: p.Tags, Kinds: make([]api.Kind, n)}, valid.Place{In: valid.InKinds}, api.ErrKinds)
	for _, c := range []struct {
		do    func(p *api.Program, c *api.Chord)
		in    int
		fault api.Errno
	}{
		{func(p *api.Program, c *api.Chord) { p.Tags[0].Name = long }, valid.InTag, api.ErrName},
		{func(p *api.Program, c *api.Chord) { p.Tags[0].Types = slices.Repeat([]int{1}, n) }, valid.InTag, api.ErrFields},
		{func(p *api.Program, c *api.Chord) { p.Kinds[0].Name = long }, valid.InKind, api.ErrName},
		{func(p *api.Program, c *api.Chord) { p.Kinds[0].Chords = make([]api.Chord, n) }, valid.InKind, api.ErrChords},
		{func(p *api.Program, c *api.Chord) { c.Name = long }, valid.InChord, api.ErrName},
		{func(p *api.Program, c *api.Chord) { c.Parts = make([]api.Part, n) }, valid.InChord, api.ErrParts},
		{func(p *api.Program, c *api.Chord) { c.Parts[0].Tag = long }, valid.InPart, api.ErrNoTag},
		{func(p *api.Program, c *api.Chord) { c.Parts[0].Vars = make([]string, n) }, valid.InPart, api.ErrFields},
		{func(p *api.Program, c *api.Chord) { c.Guard.Nodes = make([]api.Node, n) }, valid.InGuard, api.ErrNodes},
		{func(p *api.Program, c *api.Chord) { c.Body = make([]api.Act, n) }, valid.InBody, api.ErrBody},
		{func(p *api.Program, c *api.Chord) { c.Body = []api.Act{spawn("k", long)} }, valid.InAct, api.ErrName},
		{func(p *api.Program, c *api.Chord) { c.Body = []api.Act{become(long)} }, valid.InAct, api.ErrNoKind},
		{func(p *api.Program, c *api.Chord) { c.Body = []api.Act{send("1", long)} }, valid.InAct, api.ErrNoTag},
		{func(p *api.Program, c *api.Chord) {
			c.Body = []api.Act{{Kind: api.ActReply, Args: make([]api.Expr, n)}}
		}, valid.InAct, api.ErrFields},
		{func(p *api.Program, c *api.Chord) {
			c.Body = []api.Act{{Kind: api.ActSend, To: of("1"), Name: "t0", Args: make([]api.Expr, n)}}
		}, valid.InAct, api.ErrFields},
	} {
		q := clonedProgram(p)
		c.do(&q, &q.Kinds[0].Chords[0])
		want(q, valid.Place{In: c.in}, c.fault)
	}
	c := chord("c", part("t1", make([]string, n)...))
	c.Parts = append(c.Parts, make([]api.Part, n)...)
	wantFields(t, p, c)
}
