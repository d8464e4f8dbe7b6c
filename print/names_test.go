package print_test

import (
	"math"
	"testing"

	"chordmail/api"
	"chordmail/decl"
)

// spot is a place at which a word stands: programs, chords and acts with a name there, and the text ahead of it and behind it.
type spot struct {
	program func(name string) api.Program
	chord   func(name string) api.Chord
	act     func(name string) api.Act
	ahead   string
	behind  string
	isVar   bool
}

func wordSpots() []spot {
	c := func(do func(name string) api.Chord, ahead, behind string, isVar bool) spot {
		return spot{chord: do, ahead: ahead, behind: behind, isVar: isVar}
	}
	a := func(do func(name string) api.Act, ahead, behind string) spot {
		return spot{act: do, ahead: ahead, behind: behind}
	}
	p := func(do func(name string) api.Program, ahead, behind string) spot {
		return spot{program: do, ahead: ahead, behind: behind}
	}
	return []spot{
		p(func(name string) api.Program { return tags(tag(name)) }, "tag ", "();\n"),
		p(func(name string) api.Program { return tags(tag("a"), tag(name, 1, 4), tag("b")) }, "tag a();\ntag ", "(int, text);\ntag b();\n"),
		p(func(name string) api.Program { return kinds(kind(name)) }, "kind ", " {\n}\n"),
		p(func(name string) api.Program {
			return api.Program{Tags: []api.Tag{tag("a")}, Kinds: []api.Kind{kind("j"), kind(name, chord("c", part("p"))), kind("i")}}
		}, "tag a();\nkind j {\n}\nkind ", " {\n\tchord c: p() {\n\t}\n}\nkind i {\n}\n"),
		c(func(name string) api.Chord { return chord(name, part("p")) }, "chord ", ": p() {\n\t}", false),
		c(func(name string) api.Chord { return chord("c", part(name)) }, "chord c: ", "() {\n\t}", false),
		c(func(name string) api.Chord { return chord("c", part("p"), part(name, "x"), part("q")) }, "chord c: p() & ", "(x) & q() {\n\t}", false),
		c(func(name string) api.Chord { return chord("c", part("p", name)) }, "chord c: p(", ") {\n\t}", true),
		c(func(name string) api.Chord { return chord("c", part("p", "x", name, "y"), part("q", "z")) }, "chord c: p(x, ", ", y) & q(z) {\n\t}", true),
		c(func(name string) api.Chord { return chord("c", part("p", "x"), part("q", "y", name)) }, "chord c: p(x) & q(y, ", ") {\n\t}", true),
		a(func(name string) api.Act { return send("self", name) }, "send self ", "();"),
		a(func(name string) api.Act { return send("self + 1", name, "1", "x") }, "send self + 1 ", "(1, x);"),
		a(func(name string) api.Act { return spawn(name, "v") }, "spawn ", " as v;"),
		a(func(name string) api.Act { return spawn("k", name) }, "spawn k as ", ";"),
		a(become, "become ", ";"),
	}
}

// want holds what is told with a name in a spot.
func (s spot) want(t *testing.T, name string, fault api.Errno) {
	t.Helper()
	text := s.ahead + name + s.behind
	switch {
	case s.program != nil && fault == api.OK:
		wantText(t, s.program(name), text)
	case s.program != nil:
		wantFault(t, s.program(name), fault)
	case s.chord != nil && fault == api.OK:
		wantChordText(t, s.chord(name), text)
	case s.chord != nil:
		wantChordFault(t, s.chord(name), fault)
	case fault == api.OK:
		wantActText(t, s.act(name), text)
	default:
		wantActFault(t, s.act(name), fault)
	}
}

// P10.1, P10.2, P10.3: names wherever a word stands: those that are words, reserved words and types' names among them, and those that are none.
func TestNames(t *testing.T) {
	for _, s := range wordSpots() {
		for _, name := range []string{
			"x", "X", "z9", "a_", "a__b", "A_1_z", "self", "int", "real", "comp", "text", "bool", "true", "false", "re", "im", "size2", "len", "at", "cat", "str", "nan", "inf",
			"Tag", "KIND", "tag_", "kinds", "chord1", "whe", "sendsend", "asas", "spawned", "replying", "becomes", "a", "program", times(31, "n"), times(32, "n"),
		} {
			s.want(t, name, api.OK)
		}
		for _, name := range []string{
			"", " ", "a b", " a", "a ", "a\t", "\ta", "a\n", "\na", "a\nb", "a\r", "a\x00", "\x00", "a\x7f", "a\xff", "\xff", "a\x80b", "ä", "aä", "é", "a\u00a0", "#", "a#", "a#b", "a #", "#\na", "a#\n", "a # b\n", `"`, `a"`, `"a"`, `"a`, `""`,
			"tag", "kind", "chord", "when", "send", "spawn", "as", "reply", "become", "1", "0", "1a", "1p0", "_a", "__", "a-b", "a.b", "a'", "$a", "a$", "-", "-a", "!a", "(a)", "a)", "(", ")", ",", "a,", ",a", ";", "a;", ";a", ":", "{", "}", "&", "=", "->", "\\", "a\\", "`", times(33, "n"), times(34, "n"), times(64, "n"), times(300, "n"),
		} {
			s.want(t, name, api.ErrDecl)
		}
		if s.isVar {
			s.want(t, "_", api.OK)
		} else {
			s.want(t, "_", api.ErrDecl)
		}
	}
}

// P10.1: each byte within a name and at its ends: just letters, digits and _ may stand there.
func TestBytes(t *testing.T) {
	for _, s := range wordSpots() {
		for b := range 256 {
			c := string([]byte{byte(b)})
			letter := 'a' <= b && b <= 'z' || 'A' <= b && b <= 'Z'
			within := letter || '0' <= b && b <= '9' || b == '_'
			for name, may := range map[string]bool{c: letter || b == '_' && s.isVar, c + "a": letter && c+"a" != "as", "x" + c: within, "x" + c + "a": within} {
				fault := api.ErrDecl
				if may {
					fault = api.OK
				}
				s.want(t, name, fault)
			}
		}
	}
}

// wantOther holds a program's error, though its text is read: as another program.
func wantOther(t *testing.T, p api.Program) {
	t.Helper()
	if q, at, fault := decl.Parse([]byte(programText(p))); fault != api.OK || sameProgram(p, q) {
		complain(t, "%q: %+v, %d, %v", programText(p), q, at, fault)
	}
	wantFault(t, p, api.ErrDecl)
}

// wantOtherChord is wantOther of a chord, alone and in a program.
func wantOtherChord(t *testing.T, c api.Chord) {
	t.Helper()
	if d, at, fault := decl.ParseChord([]byte(chordText(c))); fault != api.OK || sameChord(c, d) {
		complain(t, "%q: %+v, %d, %v", chordText(c), d, at, fault)
	}
	wantChordFault(t, c, api.ErrDecl)
	wantOther(t, kinds(kind("k", c)))
}

// wantOtherAct is wantOther of an act, alone, in a chord and in a program.
func wantOtherAct(t *testing.T, a api.Act) {
	t.Helper()
	wantActFault(t, a, api.ErrDecl)
	wantOtherChord(t, withBody(a))
}

// P10.1: names by which the text is read as another program, with more, fewer or other tags, kinds and chords.
func TestOtherPrograms(t *testing.T) {
	for _, name := range []string{"a ", " a", "a\n", "a\t ", "a # b\n", "#\na", "a#;\n", "# $ (\r\n a"} {
		wantOther(t, tags(tag(name)))
		wantOther(t, kinds(kind(name)))
		wantOther(t, kinds(kind("k", chord(name, part("p")))))
	}
	for _, name := range []string{"a(); tag b", "a();\ntag b", "a(int); tag b", "a(text, int); kind k { } tag b", "a(); kind k {\n}\ntag b", "a(); tag b(); tag c", "a(); kind k { chord c: p() { become k; } } tag b", "a(); # so\n tag b"} {
		wantOther(t, tags(tag(name)))
		wantOther(t, tags(tag("z"), tag(name, api.Int, api.Real), tag("z", api.Text)))
	}
	for _, name := range []string{"k { } kind j", "k {\n}\nkind j", "k { } tag t(); kind j", "k { chord c: p() { } } kind j", "k {\n\tchord c: p() {\n\t}\n}\nkind j", "k { } kind i { } kind j", "k { } # so\n kind j"} {
		wantOther(t, kinds(kind(name)))
		wantOther(t, kinds(kind("i"), kind(name, chord("d", part("q"))), kind("i")))
	}
	for _, name := range []string{"c: p() { } chord d", "c: p(x) when x { } chord d", "c: p() { become k; } } kind j { chord d", "c: p() { } } tag t(); kind j { chord d", "c: p() {\n\t}\n\tchord d"} {
		wantOther(t, kinds(kind("k", chord(name, part("q")))))
		wantOther(t, kinds(kind("k", chord("b", part("p")), chord(name, part("q", "x")), chord("e", part("p")))))
	}
	for _, c := range []api.Chord{
		chord("c", part("p() { } chord d: q")), chord("c", part("p"), part("p(x) when x { reply(); } chord d: q")), chord("c", part("p", "x) { } chord d: q(y")), chord("c", part("p", "x) { } } kind j { chord d: q(y")),
		withBody(become("k; } chord d: q() { become k")), withBody(become("k; } } kind j { chord d: q() { become k")), withBody(become("k;\n\t}\n}\ntag t();\nkind j {\n\tchord c: p() {\n\t\tbecome k")), withBody(spawn("k", "v; } chord d: q() { become k")), withBody(spawn("k as v; } chord d: q() { spawn k", "v")), withBody(send("1", "t(); } chord d: q() { send 1 t")),
	} {
		wantChordFault(t, c, api.ErrDecl)
		wantOther(t, kinds(kind("k", c)))
	}
	// A type that there is not leaves no name behind it.
	wantOther(t, tags(tag("a", 0)))
	wantOther(t, tags(tag("a", 9), tag("b")))
}

// P10.1, P10.2: names by which the text is read as another chord, with more, fewer or other parts, variables, a guard and acts.
func TestOtherChords(t *testing.T) {
	for _, name := range []string{"p() & q", "p(x) & q", "p(_, y) & q() & r", "p ", "\tp", "p # so\n", "p() &\n q"} {
		wantOtherChord(t, chord("c", part(name)))
		wantOtherChord(t, chord("c", part("a"), part(name, "x"), part("b", "y")))
	}
	for _, name := range []string{"x, y", "x,y", "_, _", "x ", " _", "\nx", "x # so\n", "x) & q(y", "x) & q(_", "x) when (y", "x) when x && !(y", "x) & q() when len(y"} {
		wantOtherChord(t, chord("c", part("p", name)))
		wantOtherChord(t, chord("c", part("o", "z"), part("p", "z", name)))
	}
	wantOtherChord(t, chord("c", part("p", "")))
	wantOtherChord(t, chord("c", part("p", " ")))
	wantOtherChord(t, chord("c", part("p"), part("q", "#\n")))
	wantChordFault(t, chord("c: p() &", part("q")), api.ErrDecl)
	wantChordFault(t, chord("c", part("p", "x) { } #")), api.ErrDecl)
	for _, name := range []string{"c ", "\nc", "c # :\n"} {
		wantOtherChord(t, chord(name, part("p")))
	}
}

// P10.1, P10.2, P10.3: names by which the text is read as other acts.
func TestOtherActs(t *testing.T) {
	for _, name := range []string{"k; become j", "k; reply(); become j", "k;\n\t\tbecome k", "k; spawn k as v; become j", "k ", " k", "k # so\n", "\tk", "k; send 1 t(k); become j"} {
		wantOtherAct(t, become(name))
	}
	for _, name := range []string{"k as v; spawn j", "k ", "\nk", "k # so\n", "k as v; become j; spawn i", "k as v;\n\t\tspawn k"} {
		wantOtherAct(t, spawn(name, "v"))
	}
	for _, name := range []string{"v; spawn k as v", "v; become k", "v ", " v", "v # so\n", "v; reply(); spawn k as w"} {
		wantOtherAct(t, spawn("k", name))
	}
	for _, name := range []string{"+ y t", "- 1 t", "* (2) t", "&& !y t", "t(); send x u", "t(1, x); reply(); send self u", "t(); reply", "t ", " t", "t # so\n", "t(); spawn k as v; send x t"} {
		wantOtherAct(t, send("x", name))
		wantOtherAct(t, send("-n", name, "1", "x"))
	}
	// Acts that a comment hides, the chord's own among them.
	wantOtherChord(t, withBody(become("k; #"), reply()))
	wantOtherChord(t, withBody(become("k; become j; # so"), spawn("k", "v"), reply()))
	wantOtherChord(t, withBody(spawn("k", "v; #"), reply()))
	wantOtherChord(t, withBody(spawn("k as v; #", "w"), reply()))
	wantOtherChord(t, withBody(reply(), send("1", "t(); #", "x"), reply()))
	for _, a := range []api.Act{become("k; #"), spawn("k", "v; #"), spawn("k as v; #", "w"), send("1", "t(); #"), become("k; } #"), spawn("k", "v; } #"), send("1", "t(); } #")} {
		wantAct(t, a, answer{"", api.ErrDecl})
	}
}

// P10.1: types that there are not, and bool, in each place of the list.
func TestTypes(t *testing.T) {
	for _, kind := range []int{0, -1, api.Bool, 6, 7, 100, -5, 1 << 32, 1<<32 + 1, math.MaxInt, math.MinInt, math.MinInt + 1} {
		for _, l := range [][]int{{kind}, {kind, 1}, {1, kind}, {1, 2, kind, 3}, {kind, kind}, {4, 4, 4, 4, 4, kind}} {
			wantFault(t, tags(tag("a", l...)), api.ErrDecl)
			wantFault(t, tags(tag("b"), tag("a", l...), tag("c", 1)), api.ErrDecl)
			wantFault(t, api.Program{Tags: []api.Tag{tag("a", l...)}, Kinds: []api.Kind{{Name: "k"}}}, api.ErrDecl)
		}
	}
	for kind, name := range []string{1: "int", 2: "real", 3: "comp", 4: "text"} {
		if kind > 0 {
			wantText(t, tags(tag("a", kind)), "tag a("+name+");\n")
			wantText(t, tags(tag(name, 4, kind)), "tag "+name+"(text, "+name+");\n")
		}
	}
}

func withoutParts(c api.Chord) api.Chord {
	c.Parts = nil
	return c
}

// P10.1, P10.2: chords without parts, first and behind others, with a guard and acts and without.
func TestNoParts(t *testing.T) {
	full := withoutParts(withBody(reply()))
	full.Guard = of("true")
	for _, c := range []api.Chord{chord("c"), {Name: "c", Parts: []api.Part{}}, full, withoutParts(withBody(become("k"))), withoutParts(withGuard(of("n")))} {
		wantChordFault(t, c, api.ErrDecl)
		wantFault(t, kinds(kind("k", chord("b", part("p")), c)), api.ErrDecl)
		wantFault(t, kinds(kind("k", c, chord("b", part("p")))), api.ErrDecl)
		wantFault(t, kinds(kind("j"), kind("k", c), kind("i")), api.ErrDecl)
	}
}

// P10.1, P10.2, P10.3: acts of a Kind that there is not, with no fields, and with those of each Kind.
func TestActKinds(t *testing.T) {
	for _, kind := range []int{0, -1, -2, -3, -4, 5, 6, 7, 9, 100, 1 << 32, 1<<32 + 1, math.MaxInt, math.MinInt} {
		for _, a := range []api.Act{{}, send("self", "t"), send("self", "t", "1", "x"), spawn("k", "v"), reply(), reply("1"), become("k"), {Name: "become k;"}, {Var: "reply();"}} {
			a.Kind = kind
			wantActFault(t, a, api.ErrDecl)
		}
	}
}

// P10.1, P10.2, P10.3: of each Kind each field that it does not name, set to something.
func TestOtherFields(t *testing.T) {
	to := func(a *api.Act, e api.Expr) { a.To = e }
	args := func(a *api.Act, e api.Expr) { a.Args = []api.Expr{e} }
	name := func(a *api.Act, s string) { a.Name = s }
	variable := func(a *api.Act, s string) { a.Var = s }
	someExprs := append(exprs("1", "self", "x + 1", `"a"`, "true"), nodes(api.Node{}), nodes(called("")), signed(12), sums(6))
	someNames := []string{"x", "k", "t", "v", "_", " ", "\n", "#", "\x00", "tag", "1", "x y", ";", times(33, "n"), times(32, "n"), times(40000, "n")}
	for _, c := range []struct {
		act   api.Act
		exprs []func(a *api.Act, e api.Expr)
		names []func(a *api.Act, s string)
	}{
		{send("self", "t"), nil, []func(a *api.Act, s string){variable}},
		{send("self", "t", "1", "x"), nil, []func(a *api.Act, s string){variable}},
		{spawn("k", "v"), []func(a *api.Act, e api.Expr){to, args}, nil},
		{reply(), []func(a *api.Act, e api.Expr){to}, []func(a *api.Act, s string){name, variable}},
		{reply("1", "x"), []func(a *api.Act, e api.Expr){to}, []func(a *api.Act, s string){name, variable}},
		{become("k"), []func(a *api.Act, e api.Expr){to, args}, []func(a *api.Act, s string){variable}},
	} {
		wantActText(t, c.act, actText(c.act))
		for _, set := range c.exprs {
			for _, e := range someExprs {
				a := c.act
				set(&a, e)
				wantActFault(t, a, api.ErrDecl)
			}
		}
		for _, set := range c.names {
			for _, s := range someNames {
				a := c.act
				set(&a, s)
				wantActFault(t, a, api.ErrDecl)
			}
		}
	}
	a := become("k")
	a.Args = []api.Expr{{}}
	wantActFault(t, a, api.ErrDecl)
	a = spawn("k", "v")
	a.Args = []api.Expr{{}, {}}
	wantActFault(t, a, api.ErrDecl)
}
