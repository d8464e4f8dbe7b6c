package valid_test

import (
	"fmt"
	"slices"
	"testing"

	"chordmail/api"
	"chordmail/valid"
)

// noWords are names that stand nowhere.
func noWords() []string {
	l := []string{
		"", " ", "_", "__", "_a", "a b", " a", "a ", "\ta", "a\n", "\r", "a\tb", "#", "a#", "#a", "a #b", "9", "9a", "0", "12", "1p0", "a-b", "-", "->", "a.b", "a,", "a;", "(a)", "a()", "a+", "&", "!a", ":", "a:", "\"a\"", "\"\"", "a$", "$", "@a", "a'", "a\\", "[", "`", "{", "a/", "a@",
		"\u00e9", "a\u00e9", "\u00e9a", "\u00e41", "a\x80", "\xffa", "a\xff", "\x00", "a\x00", "\x7f", "a\x7f", "\u65e5\u672c", "\uff41", "\u212a", "\u017f", "\ufb01", "a\u200b", "\ufeffa", "a\u0660", "a\u0301",
		times(33, "n"), times(34, "n"), times(100, "n"), times(32, "n") + " ", " " + times(32, "n"), times(32, "n") + "_", "a" + times(32, "9"), times(32767, "n"), times(32768, "n"), times(32769, "n"), times(40000, "n"), "a" + times(32767, " "), "a" + times(40000, " "), times(40000, " ") + "a",
	}
	return append(l, keywords()...)
}

func keywords() []string {
	return []string{"tag", "kind", "chord", "when", "send", "spawn", "as", "reply", "become"}
}

// reserved are words that are no variables' names.
func reserved() []string {
	return []string{"true", "false", "re", "im", "size2", "comp", "real", "len", "at", "cat", "str"}
}

// freeNames are words that are variables' names.
func freeNames() []string {
	l := []string{
		"a", "z", "A", "Z", "m", "M", "a_", "a__", "a9", "a0_9Z", "Z_", "x1y2", "int", "text", "bool", "Self", "SELF", "self_", "self1", "selves", "True", "FALSE", "re2", "re_", "Re", "size", "size2_", "size22", "size3", "reals", "Real", "length", "atom", "cats", "strs", "Str", "ints", "none", "nil", "program", "guard", "body", "e", "p", "p1", "x0a", "func", "if", "var",
		times(32, "n"), times(31, "n"), "Z" + times(31, "9"), "a" + times(31, "_"), times(31, "q") + "_",
	}
	for _, k := range keywords() {
		l = append(l, k+"_", k+"s", k+"1", string(k[0]-32)+k[1:], "x"+k)
	}
	return l
}

// named is a program that may be, in which a name stands in one place; but a tag is named there, it is named wherever it is meant.
type named struct {
	at   valid.Place
	made func(name string) api.Program
}

// words are the places where a word is wanted.
func words(t *testing.T) []named {
	base := parsed(t, "tag ta(int); tag tb(); kind ka { } kind kb { chord ca: ta(v1) & tb() { send 1 ta(2); spawn ka as v2; become kb; } chord cb: tb() { } }")
	with := func(do func(p *api.Program, name string)) func(string) api.Program {
		return func(name string) api.Program {
			return changed(base, func(p *api.Program) { do(p, name) })
		}
	}
	return []named{
		{valid.Place{In: valid.InTag}, with(func(p *api.Program, name string) {
			p.Tags[0].Name, p.Kinds[1].Chords[0].Parts[0].Tag, p.Kinds[1].Chords[0].Body[0].Name = name, name, name
		})},
		{valid.Place{In: valid.InTag, Tag: 1}, with(func(p *api.Program, name string) {
			p.Tags[1].Name, p.Kinds[1].Chords[0].Parts[1].Tag, p.Kinds[1].Chords[1].Parts[0].Tag = name, name, name
		})},
		{valid.Place{In: valid.InKind}, with(func(p *api.Program, name string) {
			p.Kinds[0].Name, p.Kinds[1].Chords[0].Body[1].Name = name, name
		})},
		{valid.Place{In: valid.InKind, Kind: 1}, with(func(p *api.Program, name string) {
			p.Kinds[1].Name, p.Kinds[1].Chords[0].Body[2].Name = name, name
		})},
		{valid.Place{In: valid.InChord, Kind: 1}, with(func(p *api.Program, name string) { p.Kinds[1].Chords[0].Name = name })},
		{valid.Place{In: valid.InChord, Kind: 1, Chord: 1}, with(func(p *api.Program, name string) { p.Kinds[1].Chords[1].Name = name })},
	}
}

// variables are the places where a variable's name is wanted.
func variables(t *testing.T) []named {
	base := parsed(t, "tag ta(int); tag tc(text, real, int); kind ka { } kind kb { chord ca: ta(v1) & tc(_, v2, v3) { spawn ka as v4; reply(); spawn kb as v5; } }")
	with := func(do func(c *api.Chord, name string)) func(string) api.Program {
		return func(name string) api.Program {
			return changed(base, func(p *api.Program) { do(&p.Kinds[1].Chords[0], name) })
		}
	}
	return []named{
		{valid.Place{In: valid.InVar, Kind: 1}, with(func(c *api.Chord, name string) { c.Parts[0].Vars[0] = name })},
		{valid.Place{In: valid.InVar, Kind: 1, Part: 1}, with(func(c *api.Chord, name string) { c.Parts[1].Vars[0] = name })},
		{valid.Place{In: valid.InVar, Kind: 1, Part: 1, Arg: 2}, with(func(c *api.Chord, name string) { c.Parts[1].Vars[2] = name })},
		{valid.Place{In: valid.InAct, Kind: 1}, with(func(c *api.Chord, name string) { c.Body[0].Var = name })},
		{valid.Place{In: valid.InAct, Kind: 1, Act: 2}, with(func(c *api.Chord, name string) { c.Body[2].Var = name })},
	}
}

// P9.1: what is a word, wherever one is wanted.
func TestWords(t *testing.T) {
	for _, n := range words(t) {
		for _, name := range noWords() {
			wantBreach(t, n.made(name), n.at, api.ErrName)
		}
		for _, name := range slices.Concat(freeNames(), reserved(), []string{"self"}) {
			wantMay(t, n.made(name))
		}
	}
}

// P9.1: what is a variable's name, wherever one is wanted; _ is one among the Vars alone, and not looked at there; self is taken.
func TestVariables(t *testing.T) {
	for _, n := range variables(t) {
		for _, name := range slices.Concat(noWords(), reserved()) {
			if name == "_" && n.at.In == valid.InVar {
				wantMay(t, n.made(name))
				continue
			}
			wantBreach(t, n.made(name), n.at, api.ErrName)
		}
		for _, name := range freeNames() {
			wantMay(t, n.made(name))
		}
		wantBreach(t, n.made("self"), n.at, api.ErrTwice)
	}
}

// P9.1: each byte but those of a name breaks it, at its beginning, within it and at its end.
func TestBytes(t *testing.T) {
	begins := func(b byte) bool { return 'a' <= b && b <= 'z' || 'A' <= b && b <= 'Z' }
	for b := range 256 {
		c := byte(b)
		goesOn := begins(c) || '0' <= c && c <= '9' || c == '_'
		for name, is := range map[string]bool{"x" + string([]byte{c, 'x'}): goesOn, "xq" + string([]byte{c}): goesOn, string([]byte{c}) + "qx": begins(c)} {
			for _, n := range slices.Concat(words(t)[1:3], words(t)[5:], variables(t)[1:2], variables(t)[4:]) {
				if is {
					wantMay(t, n.made(name))
				} else {
					wantBreach(t, n.made(name), n.at, api.ErrName)
				}
			}
		}
	}
}

// P9.1: a name that an earlier tag, kind or chord has: beside one another and far apart. Names that just begin alike, or are alike but for great letters, are unlike.
func TestTwice(t *testing.T) {
	const n = 12
	made := func(names []string) (tags, kinds, chords api.Program) {
		l := kind("k")
		for _, name := range names {
			tags.Tags, kinds.Kinds = append(tags.Tags, tag(name)), append(kinds.Kinds, kind(name))
			l.Chords = append(l.Chords, chord(name, part("t")))
		}
		tags.Kinds, kinds.Tags = []api.Kind{kind("k")}, []api.Tag{tag("t")}
		return tags, kinds, api.Program{Tags: []api.Tag{tag("t")}, Kinds: []api.Kind{kind("j", chord("n3", part("t"))), l, kind("l", l.Chords[:1]...)}}
	}
	var names []string
	for i := range n {
		names = append(names, fmt.Sprint("n", i))
	}
	for i := range n {
		for j := range i {
			l := slices.Clone(names)
			l[i] = l[j]
			tags, kinds, chords := made(l)
			wantBreach(t, tags, valid.Place{In: valid.InTag, Tag: i}, api.ErrTwice)
			wantBreach(t, kinds, valid.Place{In: valid.InKind, Kind: i}, api.ErrTwice)
			wantBreach(t, chords, valid.Place{In: valid.InChord, Kind: 1, Chord: i}, api.ErrTwice)
		}
	}
	for _, l := range [][]string{names, {"a", "A", "aa", "Aa", "aA", "a_", "a1"}, {times(32, "n"), times(31, "n"), times(31, "n") + "m", "n"}} {
		tags, kinds, chords := made(l)
		wantMay(t, tags)
		wantMay(t, kinds)
		wantMay(t, chords)
	}
}

// P9.1: a Var that stands earlier in the chord's parts: in the same one, in others, far ahead. Blanks do not count, nor do other chords.
func TestVarsTwice(t *testing.T) {
	at := func(part, arg int) valid.Place { return valid.Place{In: valid.InVar, Part: part, Arg: arg} }
	for parts, wanted := range map[string]valid.Place{
		"inc(n, n)": at(0, 1), "inc(n, t) & inc(n, u)": at(1, 0), "inc(n, t) & inc(t, u)": at(1, 0), "inc(n, t) & inc(m, n)": at(1, 1), "inc(n, t) & inc(m, t)": at(1, 1), "inc(_, t) & inc(_, t)": at(1, 1), "inc(n, _) & inc(_, n)": at(1, 1),
		"inc(n, t) & ping() & inc(_, u) & inc(n, _)": at(3, 0), "inc(n, t) & ping() & inc(_, u) & inc(_, t)": at(3, 1), "inc(a, b) & inc(c, d) & inc(e, f) & inc(g, d)": at(3, 1), "inc(a, b) & inc(c, d) & inc(e, e) & inc(a, b)": at(2, 1),
		"inc(self, t)": at(0, 0), "inc(_, self)": at(0, 1), "ping() & ping() & inc(n, self)": at(2, 1), "inc(n, t) & inc(self, self)": at(1, 0), "inc(n, _) & inc(_, _) & ping() & inc(_, self)": at(3, 1),
	} {
		wantBreach(t, inPart(t, parts+" { }"), wanted, api.ErrTwice)
	}
	for _, parts := range []string{"inc(_, _)", "inc(_, _) & inc(_, _) & inc(_, _) & inc(_, _)", "inc(a, b) & inc(c, d) & inc(e, f) & inc(g, h)", "inc(n, N) & inc(nn, n_)", "ping() & ping() & ping() & ping()", "inc(_, n) & inc(m, _)"} {
		wantMay(t, inPart(t, parts+" { }"))
	}
	wantMay(t, parsed(t, exampleTags+"kind k { chord c: inc(n, t) { } chord d: inc(n, t) { } chord e: inc(t, n) { spawn k as v; } chord f: inc(v, _) { } } kind j { chord c: inc(n, t) & inc(v, _) { } }"))
}

// P9.1: of a spawn: a Var that is one of the chord's variables, in whichever part, or an earlier spawn's.
func TestSpawnsTwice(t *testing.T) {
	act := func(i int) valid.Place { return valid.Place{In: valid.InAct, Act: i} }
	for _, c := range []struct {
		chord string
		at    int
	}{
		{"inc(n, t) { spawn k as n; }", 0}, {"inc(n, t) { spawn k as t; }", 0}, {"inc(_, t) & ping() & inc(m, _) { spawn k as v; spawn k as m; }", 1}, {"ping() { spawn k as self; }", 0}, {"ping() { spawn k as v; spawn k as self; }", 1},
		{"ping() { spawn k as v; spawn k as v; }", 1}, {"ping() { spawn k as v; reply(); spawn k as w; send w ping(); become k; spawn k as v; }", 5}, {"ping() { spawn k as v; spawn k as w; spawn k as w; }", 2}, {"inc(a, _) & inc(_, b) & inc(c, d) & inc(e, f) { spawn k as g; spawn k as b; }", 1},
	} {
		wantBreach(t, inPart(t, c.chord), act(c.at), api.ErrTwice)
	}
	wantMay(t, inPart(t, "inc(_, _) { spawn k as v; spawn k as w; spawn k as n; spawn k as t; spawn k as V; spawn k as k; spawn k as c; spawn k as inc; }"))
	wantMay(t, parsed(t, exampleTags+"kind k { chord c: ping() { spawn k as v; } chord d: inc(v, _) { } chord e: inc(w, _) { spawn k as v; } } kind j { chord c: inc(v, w) { spawn k as u; } chord d: inc(u, _) { spawn j as v; spawn j as w; } }"))
}
