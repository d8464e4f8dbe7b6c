package valid_test

import (
	"fmt"
	"slices"
	"testing"

	"chordmail/api"
	"chordmail/valid"
)

// orderText is a program that may be, in which there is a place for each breach.
const orderText = `
tag a(int, text); tag b(); tag c(real, comp); tag d(int); tag e(text); tag f();
kind j { chord x: b() { } chord w: d(_) { } }
kind k {
	chord x: a(n, t) & c(r, z) & d(m) when n < m {
		send self a(n + 1, t);
		spawn j as v;
		send v d(v);
		reply(n, t, r);
		become j;
		spawn k as w;
	}
	chord y: d(n) & d(m) when n != m { send n c(1p0, comp(1p0, 1p1)); reply(m); become k; }
}
kind l { chord x: a(n, t) & d(m) when len(t) > n { send m a(n, t); } }
kind o { }
`

// breach is one that is put into orderText's program; two that set the same thing are not put in together.
type breach struct {
	sets  string
	at    valid.Place
	fault api.Errno
	do    func(p *api.Program)
}

func put[T any](to func(p *api.Program) *T, x T) func(p *api.Program) {
	return func(p *api.Program) { *to(p) = x }
}

func more[T any](to func(p *api.Program) *[]T, n int, one func(i int) T) func(p *api.Program) {
	return func(p *api.Program) {
		for l := to(p); len(*l) < n; {
			*l = append(*l, one(len(*l)))
		}
	}
}

// breachesOfTags are those of the program's tags, and of how many tags and kinds there are, in the table's order.
func breachesOfTags() []breach {
	name := func(i int) func(p *api.Program) *string {
		return func(p *api.Program) *string { return &p.Tags[i].Name }
	}
	types := func(i int) func(p *api.Program) *[]int {
		return func(p *api.Program) *[]int { return &p.Tags[i].Types }
	}
	at := func(i int) valid.Place { return valid.Place{In: valid.InTag, Tag: i} }
	return []breach{
		{"tags", valid.Place{In: valid.InTags}, api.ErrTags, more(func(p *api.Program) *[]api.Tag { return &p.Tags }, 65, func(i int) api.Tag { return tag(fmt.Sprint("t", i)) })},
		{"kinds", valid.Place{In: valid.InKinds}, api.ErrKinds, more(func(p *api.Program) *[]api.Kind { return &p.Kinds }, 33, func(i int) api.Kind { return kind(fmt.Sprint("k", i)) })},
		{"name 0", at(0), api.ErrName, put(name(0), "9a")},
		{"types 0", at(0), api.ErrFields, put(types(0), []int{api.Int, api.Bool})},
		{"name 3", at(3), api.ErrName, put(name(3), "send")},
		{"name 3", at(3), api.ErrTwice, put(name(3), "b")},
		{"types 3", at(3), api.ErrFields, put(types(3), []int{0})},
		{"types 3", at(3), api.ErrFields, more(types(3), 7, func(i int) int { return api.Real })},
		{"name 4", at(4), api.ErrTwice, put(name(4), "c")},
		{"types 4", at(4), api.ErrFields, put(types(4), []int{6})},
		{"name 5", at(5), api.ErrName, put(name(5), "")},
	}
}

// breachesOfParts are those of a kind's and of its chords' names, parts and guards, in the table's order; the chord is k's first one.
func breachesOfParts() []breach {
	kindAt := func(k int) valid.Place { return valid.Place{In: valid.InKind, Kind: k} }
	chordAt := func(in, c int) valid.Place { return valid.Place{In: in, Kind: 1, Chord: c} }
	partAt := func(in, part, arg int) valid.Place { return valid.Place{In: in, Kind: 1, Part: part, Arg: arg} }
	kindName := func(k int) func(p *api.Program) *string {
		return func(p *api.Program) *string { return &p.Kinds[k].Name }
	}
	chords := func(k int) func(p *api.Program) *[]api.Chord {
		return func(p *api.Program) *[]api.Chord { return &p.Kinds[k].Chords }
	}
	chordName := func(k, c int) func(p *api.Program) *string {
		return func(p *api.Program) *string { return &p.Kinds[k].Chords[c].Name }
	}
	parts := func(p *api.Program) *[]api.Part { return &p.Kinds[1].Chords[0].Parts }
	tagOf := func(i int) func(p *api.Program) *string {
		return func(p *api.Program) *string { return &(*parts(p))[i].Tag }
	}
	varOf := func(i, v int) func(p *api.Program) *string {
		return func(p *api.Program) *string { return &(*parts(p))[i].Vars[v] }
	}
	another := func(i int) api.Chord { return chord(fmt.Sprint("n", i), part("b")) }
	guard := func(p *api.Program) *api.Expr { return &p.Kinds[1].Chords[0].Guard }
	return []breach{
		{"kind 0", kindAt(0), api.ErrName, put(kindName(0), "_")},
		{"chords 0", kindAt(0), api.ErrChords, more(chords(0), 13, another)},
		{"chord 0 0", valid.Place{In: valid.InChord}, api.ErrName, put(chordName(0, 0), "x y")},
		{"chord 0 1", valid.Place{In: valid.InChord, Chord: 1}, api.ErrTwice, put(chordName(0, 1), "x")},
		{"kind 1", kindAt(1), api.ErrName, put(kindName(1), "when")},
		{"kind 1", kindAt(1), api.ErrTwice, put(kindName(1), "j")},
		{"chords 1", kindAt(1), api.ErrChords, more(chords(1), 13, another)},
		{"chord 1 0", chordAt(valid.InChord, 0), api.ErrName, put(chordName(1, 0), "x-")},
		{"parts", chordAt(valid.InChord, 0), api.ErrParts, more(parts, 5, func(i int) api.Part { return part("b") })},
		{"tag 0", partAt(valid.InPart, 0, 0), api.ErrNoTag, put(tagOf(0), "nn")},
		{"tag 0", partAt(valid.InPart, 0, 0), api.ErrFields, put(tagOf(0), "b")},
		{"var 0 0", partAt(valid.InVar, 0, 0), api.ErrName, put(varOf(0, 0), "re")},
		{"var 0 0", partAt(valid.InVar, 0, 0), api.ErrTwice, put(varOf(0, 0), "self")},
		{"var 0 1", partAt(valid.InVar, 0, 1), api.ErrName, put(varOf(0, 1), "")},
		{"tag 1", partAt(valid.InPart, 1, 0), api.ErrNoTag, put(tagOf(1), "")},
		{"tag 1", partAt(valid.InPart, 1, 0), api.ErrFields, put(tagOf(1), "e")},
		{"var 1 0", partAt(valid.InVar, 1, 0), api.ErrTwice, put(varOf(1, 0), "self")},
		{"var 1 1", partAt(valid.InVar, 1, 1), api.ErrName, put(varOf(1, 1), "len")},
		{"tag 2", partAt(valid.InPart, 2, 0), api.ErrFields, put(tagOf(2), "c")},
		{"var 2 0", partAt(valid.InVar, 2, 0), api.ErrName, put(varOf(2, 0), "m ")},
		{"guard", chordAt(valid.InGuard, 0), api.ErrType, put(guard, of("self"))},
		{"guard", chordAt(valid.InGuard, 0), api.ErrName, put(guard, of("q < 1"))},
		{"guard", chordAt(valid.InGuard, 0), api.ErrExpr, put(guard, nodes(whole(1), whole(1)))},
		{"guard", chordAt(valid.InGuard, 0), api.ErrDepth, put(guard, nodes(whole(1), one(3, 0), one(3, 1), one(3, 2), one(3, 3), one(3, 4), one(3, 5), one(3, 6), one(3, 7), one(3, 8), one(3, 9), one(3, 10), one(3, 11)))},
		{"guard", chordAt(valid.InGuard, 0), api.ErrNodes, put(guard, nodes(make([]api.Node, 65)...))},
	}
}

// breachesOfActs are those of the body of k's first chord, and of what stands behind it, in the table's order.
func breachesOfActs() []breach {
	in := func(in, act, arg int) valid.Place { return valid.Place{In: in, Kind: 1, Act: act, Arg: arg} }
	body := func(p *api.Program) *[]api.Act { return &p.Kinds[1].Chords[0].Body }
	field := func(i int, do func(a *api.Act)) func(p *api.Program) {
		return func(p *api.Program) { do(&(*body(p))[i]) }
	}
	kindOf := func(n int) func(a *api.Act) { return func(a *api.Act) { a.Kind = n } }
	varOf := func(name string) func(a *api.Act) { return func(a *api.Act) { a.Var = name } }
	nameOf := func(name string) func(a *api.Act) { return func(a *api.Act) { a.Name = name } }
	to := func(text string) func(a *api.Act) { return func(a *api.Act) { a.To = of(text) } }
	args := func(texts ...string) func(a *api.Act) { return func(a *api.Act) { a.Args = exprs(texts...) } }
	arg := func(i int, text string) func(a *api.Act) { return func(a *api.Act) { a.Args[i] = of(text) } }
	return []breach{
		{"body", in(valid.InBody, 0, 0), api.ErrBody, more(body, 13, func(i int) api.Act { return reply() })},
		{"var 0", in(valid.InAct, 0, 0), api.ErrBody, field(0, varOf("u"))},
		{"to 0", in(valid.InAct, 0, 0), api.ErrType, field(0, to("1p0"))},
		{"to 0", in(valid.InAct, 0, 0), api.ErrName, field(0, to("v"))},
		{"name 0", in(valid.InAct, 0, 0), api.ErrNoTag, field(0, nameOf("nn"))},
		{"args 0", in(valid.InAct, 0, 0), api.ErrFields, field(0, args("q"))},
		{"args 0", in(valid.InArg, 0, 0), api.ErrName, field(0, args("v", "2"))},
		{"args 0", in(valid.InArg, 0, 1), api.ErrType, field(0, args("1", "2"))},
		{"to 1", in(valid.InAct, 1, 0), api.ErrBody, field(1, to("1"))},
		{"name 1", in(valid.InAct, 1, 0), api.ErrNoKind, field(1, nameOf("a"))},
		{"var 1", in(valid.InAct, 1, 0), api.ErrName, field(1, varOf("str"))},
		{"var 1", in(valid.InAct, 1, 0), api.ErrTwice, field(1, varOf("self"))},
		{"kind 2", in(valid.InAct, 2, 0), api.ErrBody, field(2, kindOf(5))},
		{"to 2", in(valid.InAct, 2, 0), api.ErrName, field(2, to("w"))},
		{"name 2", in(valid.InAct, 2, 0), api.ErrFields, field(2, nameOf("b"))},
		{"args 2", in(valid.InArg, 2, 0), api.ErrName, field(2, args("w"))},
		{"name 3", in(valid.InAct, 3, 0), api.ErrBody, field(3, nameOf("k"))},
		{"args 3", in(valid.InAct, 3, 0), api.ErrFields, field(3, args("q", "1", "1", "1", "1", "1", "1"))},
		{"arg 3 0", in(valid.InArg, 3, 0), api.ErrType, field(3, arg(0, "true"))},
		{"arg 3 2", in(valid.InArg, 3, 2), api.ErrName, field(3, arg(2, "w"))},
		{"args 4", in(valid.InAct, 4, 0), api.ErrBody, field(4, args("1"))},
		{"name 4", in(valid.InAct, 4, 0), api.ErrNoKind, field(4, nameOf(""))},
		{"name 5", in(valid.InAct, 5, 0), api.ErrNoKind, field(5, nameOf("x"))},
		{"var 5", in(valid.InAct, 5, 0), api.ErrName, field(5, varOf("_"))},
		{"chord 1 1", valid.Place{In: valid.InChord, Kind: 1, Chord: 1}, api.ErrTwice, func(p *api.Program) { p.Kinds[1].Chords[1].Name = "x" }},
		{"chord 1 1", valid.Place{In: valid.InChord, Kind: 1, Chord: 1}, api.ErrName, func(p *api.Program) { p.Kinds[1].Chords[1].Name = "as" }},
		{"parts 1 1", valid.Place{In: valid.InChord, Kind: 1, Chord: 1}, api.ErrParts, func(p *api.Program) { p.Kinds[1].Chords[1].Parts = nil }},
		{"guard 1 1", valid.Place{In: valid.InGuard, Kind: 1, Chord: 1}, api.ErrName, func(p *api.Program) { p.Kinds[1].Chords[1].Guard = of("t < t") }},
		{"act 1 1", valid.Place{In: valid.InArg, Kind: 1, Chord: 1, Act: 1}, api.ErrName, func(p *api.Program) { p.Kinds[1].Chords[1].Body[1] = reply("v") }},
		{"kind 2", valid.Place{In: valid.InKind, Kind: 2}, api.ErrTwice, func(p *api.Program) { p.Kinds[2].Name = "j" }},
		{"part 2 0", valid.Place{In: valid.InPart, Kind: 2, Part: 1}, api.ErrFields, func(p *api.Program) { p.Kinds[2].Chords[0].Parts[1].Vars = nil }},
		{"act 2 0", valid.Place{In: valid.InArg, Kind: 2, Arg: 1}, api.ErrType, func(p *api.Program) { p.Kinds[2].Chords[0].Body[0].Args[1] = of("1") }},
		{"kind 3", valid.Place{In: valid.InKind, Kind: 3}, api.ErrName, func(p *api.Program) { p.Kinds[3].Name = "o o" }},
	}
}

// P9.1: each breach alone, and each two of them at once: the one that is looked for first is told.
func TestOrder(t *testing.T) {
	p := parsed(t, orderText)
	wantMay(t, p)
	l := slices.Concat(breachesOfTags(), breachesOfParts(), breachesOfActs())
	for i, a := range l {
		wantBreach(t, changed(p, a.do), a.at, a.fault)
		for _, b := range l[i+1:] {
			if a.sets == b.sets {
				continue
			}
			both := changed(changed(p, a.do), b.do)
			wantBreach(t, both, a.at, a.fault)
			wantBreach(t, changed(changed(p, b.do), a.do), a.at, a.fault)
			if t.Failed() {
				t.Fatalf("%s %v, %s %v", a.sets, a.at, b.sets, b.at)
			}
		}
	}
}
