package valid_test

import (
	"slices"
	"testing"

	"chordmail/api"
	"chordmail/valid"
)

// P9.1: the chapter's examples.
func TestExamples(t *testing.T) {
	wantBreach(t, api.Program{}, valid.Place{In: valid.InTags}, api.ErrTags)
	wantBreach(t, parsed(t, "kind k { }"), valid.Place{In: valid.InTags}, api.ErrTags)
	wantBreach(t, parsed(t, exampleTags), valid.Place{In: valid.InKinds}, api.ErrKinds)
	wantBreach(t, parsed(t, exampleTags+"tag inc(); kind k { }"), valid.Place{In: valid.InTag, Tag: 2}, api.ErrTwice)
	with := func(a api.Tag) api.Program {
		return api.Program{Tags: []api.Tag{tag("inc", api.Int, api.Text), tag("ping"), a}, Kinds: []api.Kind{kind("k")}}
	}
	wantBreach(t, with(tag("inc")), valid.Place{In: valid.InTag, Tag: 2}, api.ErrTwice)
	wantBreach(t, with(tag("x", api.Bool)), valid.Place{In: valid.InTag, Tag: 2}, api.ErrFields)
	wantBreach(t, with(tag("tag")), valid.Place{In: valid.InTag, Tag: 2}, api.ErrName)
	wantMay(t, with(tag("x", api.Comp)))
	wantMay(t, inPart(t, "inc(n, t) & ping() when n < len(t) { send self inc(n, t); spawn k as v; send v ping(); }"))

	wantBreach(t, inPart(t, "inc(n, n) { }"), valid.Place{In: valid.InVar, Arg: 1}, api.ErrTwice)
	wantBreach(t, inPart(t, "inc(self, _) { }"), valid.Place{In: valid.InVar, Arg: 0}, api.ErrTwice)
	wantBreach(t, inPart(t, "inc(n) { }"), valid.Place{In: valid.InPart}, api.ErrFields)
	wantBreach(t, inPart(t, "pong() { }"), valid.Place{In: valid.InPart}, api.ErrNoTag)
	wantBreach(t, inPart(t, "inc(n, t) when n { }"), valid.Place{In: valid.InGuard}, api.ErrType)
	wantBreach(t, inPart(t, "inc(n, t) when m > 0 { }"), valid.Place{In: valid.InGuard}, api.ErrName)
	wantBreach(t, inPart(t, "ping() { send 1 inc(1, 2); }"), valid.Place{In: valid.InArg, Arg: 1}, api.ErrType)
	wantBreach(t, inPart(t, "ping() { reply(true); }"), valid.Place{In: valid.InArg, Arg: 0}, api.ErrType)
	wantBreach(t, inPart(t, "ping() { become z; }"), valid.Place{In: valid.InAct}, api.ErrNoKind)
	wantBreach(t, inPart(t, "ping() { spawn k as self; }"), valid.Place{In: valid.InAct}, api.ErrTwice)
	wantBreach(t, inPart(t, "ping() { send v ping(); spawn k as v; }"), valid.Place{In: valid.InAct, Act: 0}, api.ErrName)
}

// P9.1: the document's first example, and programs that have as little as may be, may be.
func TestMay(t *testing.T) {
	wantMay(t, parsed(t, "tag inc(int); tag ping(); kind k { chord c: inc(n) & ping() when n > 0 { send self inc(n - 1); spawn k as v; send v ping(); reply(n); } chord d: inc(n) when n == 0 { become j; } } kind j { }"))
	wantMay(t, parsed(t, "tag t(); kind k { }"))
	wantMay(t, parsed(t, "tag t(); kind k { chord c: t() { } }"))
	wantMay(t, parsed(t, "kind k { chord c: t(_, _) { } } kind j { } tag t(int, comp);"))
	wantMay(t, parsed(t, "tag t(int, real, comp, text); tag u(text, text, comp, comp, real, real); kind k { }"))
	wantMay(t, parsed(t, "tag t(); kind k { chord c: t() { } chord d: t() & t() { become k; } } kind j { chord c: t() { become k; } chord d: t() when true { } }"))
}

// P9.1: names of a tag, a kind, a chord and a variable are four things: each may be the same.
func TestNamesApart(t *testing.T) {
	wantMay(t, parsed(t, "tag a(int); tag b(); kind a { chord a: a(a) when a > 0 { send a a(a); spawn b as b; send b a(b); become a; } chord b: b() { spawn a as a; } } kind b { chord a: a(b) & b() { reply(b); become b; } chord b: b() { } }"))
	wantMay(t, parsed(t, "tag int(int); tag real(real); tag comp(comp); tag text(text); tag bool(); tag self(); kind self { chord self: int(int) & text(text) & self() when int < len(text) { spawn bool as bool; send bool real(1p0); send self self(); } } kind bool { chord true: bool() { become false; } } kind false { }"))
}

// P9.3: the first one of several, 0 and false where there is none.
func TestTagKind(t *testing.T) {
	p := api.Program{
		Tags:  []api.Tag{tag("a"), tag("b", api.Int), tag("a", api.Text), tag("tag"), tag("", 9), tag("b"), tag("k"), tag("9 x")},
		Kinds: []api.Kind{kind("k"), kind("k", chord("c")), kind("a"), kind("kind"), kind("j"), kind("j"), kind("")},
	}
	for name, wanted := range map[string][2]int{"a": {0, 2}, "b": {1, -1}, "tag": {3, -1}, "": {4, 6}, "k": {6, 0}, "9 x": {7, -1}, "kind": {-1, 3}, "j": {-1, 4}, "c": {-1, -1}, "A": {-1, -1}, "aa": {-1, -1}, " a": {-1, -1}, "_": {-1, -1}, "self": {-1, -1}} {
		if i, is := valid.Tag(p, name); i != max(wanted[0], 0) || is != (wanted[0] >= 0) {
			t.Errorf("Tag %q: %d, %v", name, i, is)
		}
		if i, is := valid.Kind(p, name); i != max(wanted[1], 0) || is != (wanted[1] >= 0) {
			t.Errorf("Kind %q: %d, %v", name, i, is)
		}
		if i, is := valid.Tag(api.Program{Kinds: p.Kinds}, name); i != 0 || is {
			t.Errorf("Tag %q of no tags: %d, %v", name, i, is)
		}
		if i, is := valid.Kind(api.Program{Tags: p.Tags}, name); i != 0 || is {
			t.Errorf("Kind %q of no kinds: %d, %v", name, i, is)
		}
	}
}

// wantFields holds Fields against self and what stands behind it.
func wantFields(t *testing.T, p api.Program, c api.Chord, wanted ...api.Field) {
	t.Helper()
	wanted = append([]api.Field{{Name: "self", Kind: api.Int}}, wanted...)
	if l := valid.Fields(p, c); !slices.Equal(l, wanted) {
		complain(t, "Fields of %+v: %+v; want %+v", c, l, wanted)
	}
}

func field(name string, kind int) api.Field { return api.Field{Name: name, Kind: kind} }

// P9.2: of chords that may be.
func TestFields(t *testing.T) {
	p := parsed(t, "tag a(int, real, comp, text); tag b(); tag c(text, int); kind k { }")
	wantFields(t, p, chord("x", part("a", "n", "x", "z", "t")), field("n", api.Int), field("x", api.Real), field("z", api.Comp), field("t", api.Text))
	wantFields(t, p, chord("x", part("b")))
	wantFields(t, p, chord("x", part("b"), part("c", "u", "m"), part("b"), part("a", "n", "x", "z", "t")), field("u", api.Text), field("m", api.Int), field("n", api.Int), field("x", api.Real), field("z", api.Comp), field("t", api.Text))
	wantFields(t, p, chord("x", part("a", "_", "x", "_", "t"), part("c", "_", "_"), part("c", "b", "a")), field("x", api.Real), field("t", api.Text), field("b", api.Text), field("a", api.Int))

	// The guard and the body say nothing of them, nor does the chord's name: a spawn's Var is none.
	c := chord("x", part("c", "u", "m"))
	c.Guard, c.Body = of("q > 0"), []api.Act{spawn("k", "v"), reply("v"), send("self", "b")}
	wantFields(t, p, c, field("u", api.Text), field("m", api.Int))
	c.Name = "a b"
	wantFields(t, p, c, field("u", api.Text), field("m", api.Int))
}

// P9.2: of any chord of any program.
func TestAnyFields(t *testing.T) {
	p := api.Program{Tags: []api.Tag{tag("a", api.Int, api.Text), tag("b"), tag("a", api.Real), tag("odd", 0, api.Bool, -7, 6), tag("", api.Comp)}}
	wantFields(t, api.Program{}, api.Chord{})
	wantFields(t, p, api.Chord{})
	wantFields(t, api.Program{}, chord("x", part("a", "n", "t"), part("b"), part("", "z")))

	// Beyond its tag's fields, of a part without a tag, too few.
	wantFields(t, p, chord("x", part("a", "n", "t", "more", "most"), part("b", "none")), field("n", api.Int), field("t", api.Text))
	wantFields(t, p, chord("x", part("none", "n", "t"), part("a", "m"), part("a"), part("A", "k")), field("m", api.Int))
	wantFields(t, p, chord("x", part("a", "_", "_", "_", "k"), part("a", "_", "t", "k")), field("t", api.Text))

	// Several times, as self, without a name.
	wantFields(t, p, chord("x", part("a", "n", "n"), part("", "n"), part("a", "n", "_")), field("n", api.Int), field("n", api.Text), field("n", api.Comp), field("n", api.Int))
	wantFields(t, p, chord("x", part("a", "self", "self"), part("", "self")), field("self", api.Int), field("self", api.Text), field("self", api.Comp))
	wantFields(t, p, chord("x", part("a", "", "9 x"), part("", "tag"), part("a", "re", "__")), field("", api.Int), field("9 x", api.Text), field("tag", api.Comp), field("re", api.Int), field("__", api.Text))

	// Types that there are not stand as they are said.
	wantFields(t, p, chord("x", part("odd", "i", "j", "k", "l", "m")), field("i", 0), field("j", api.Bool), field("k", -7), field("l", 6))

	// More parts than may be.
	c := chord("x", part("a", "n", "t"))
	var wanted []api.Field
	for range 100 {
		c.Parts = append(c.Parts, part("", "z", "y"), part("a", "_", "t"))
		wanted = append(wanted, field("z", api.Comp), field("t", api.Text))
	}
	wantFields(t, p, c, append([]api.Field{field("n", api.Int), field("t", api.Text)}, wanted...)...)
}
