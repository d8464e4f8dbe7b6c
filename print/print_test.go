package print_test

import (
	"math"
	"testing"

	"chordmail/api"
)

// P10.1, P10.2, P10.3: the chapter's examples.
func TestExamples(t *testing.T) {
	wantText(t, tags(tag("inc", api.Int, api.Text)), "tag inc(int, text);\n")
	c := api.Chord{Name: "c", Parts: []api.Part{part("inc", "n", "_"), part("ping")}, Guard: of("n<5"), Body: []api.Act{become("k")}}
	wantChordText(t, c, "chord c: inc(n, _) & ping() when n < 5 {\n\t\tbecome k;\n\t}")
	wantActText(t, send("self+1", "inc", "1"), "send self + 1 inc(1);")
	wantText(t, kinds(kind("k")), "kind k {\n}\n")
	wantChordFault(t, chord("c"), api.ErrDecl)
	wantActFault(t, api.Act{Kind: 9}, api.ErrDecl)
	wantActFault(t, api.Act{Kind: api.ActBecome, Name: "k", Var: "x"}, api.ErrDecl)
	wantChordFault(t, withGuard(nodes(api.Node{Kind: 99})), api.ErrExpr)
	wantChordFault(t, withGuard(nodes(one(api.NodeNeg, 0))), api.ErrExpr)
}

// P10.3: the text of each sort of act, with none, one and many arguments; alone, in a chord and in a program.
func TestActs(t *testing.T) {
	for _, c := range []struct {
		act  api.Act
		text string
	}{
		{send("self", "ping"), "send self ping();"},
		{send("0", "inc", "n"), "send 0 inc(n);"},
		{send("n", "put", "1", "x"), "send n put(1, x);"},
		{send("v", "put", "n", `"a, b"`, "1p0", "x", "y", "true"), `send v put(n, "a, b", 1p0, x, y, true);`},
		{send("a", "b", "c", "d", "e", "f", "g", "h", "i", "j"), "send a b(c, d, e, f, g, h, i, j);"},
		{spawn("k", "v"), "spawn k as v;"},
		{spawn("other_1", "V2"), "spawn other_1 as V2;"},
		{spawn("x", "x"), "spawn x as x;"},
		{reply(), "reply();"},
		{reply("n"), "reply(n);"},
		{reply("n", `"ok"`), `reply(n, "ok");`},
		{reply("1", "2", "3", "4", "5", "6", "7", "8"), "reply(1, 2, 3, 4, 5, 6, 7, 8);"},
		{become("k"), "become k;"},
		{become("K_9"), "become K_9;"},
	} {
		wantActText(t, c.act, c.text)
	}
}

// P10.3: targets and arguments of more than one node, as expr's Print has them, whatever brackets they were read with.
func TestExpressions(t *testing.T) {
	for _, c := range []struct{ read, text string }{
		{"self+1", "self + 1"}, {"(self)", "self"}, {"((n+1))", "n + 1"}, {"(n + 1) * 2", "(n + 1) * 2"}, {"n+(1*2)", "n + 1 * 2"}, {"1 - (2 - 3) - 4", "1 - (2 - 3) - 4"}, {"(1 - 2) - 3", "1 - 2 - 3"},
		{"-n", "-n"}, {"-(-n)", "--n"}, {"-(n+1)", "-(n + 1)"}, {"!(a&&b)||c", "!(a && b) || c"}, {"(a<b)==(c)", "(a < b) == c"}, {"a||(b&&c)", "a || b && c"}, {"(a||b)&&c", "(a || b) && c"},
		{"at(t,(n))", "at(t, n)"}, {"cat(cat(t,\"a\"),str(n%7))", `cat(cat(t, "a"), str(n % 7))`}, {"comp( re(z),im(z) )", "comp(re(z), im(z))"}, {"size2(z)/real(len(t))", "size2(z) / real(len(t))"}, {"a!=b", "a != b"}, {"a<=b", "a <= b"}, {"a>=(b>c)", "a >= (b > c)"},
		{"0", "0"}, {"9223372036854775807", "9223372036854775807"}, {"0p0", "0p0"}, {"3p-1", "3p-1"}, {"9007199254740991p971", "9007199254740991p971"}, {"1p-1074", "1p-1074"}, {"true", "true"}, {"false", "false"},
		{`"a\"b\\\x00\xff # ; } ) {"`, `"a\"b\\\x00\xff # ; } ) {"`}, {`""`, `""`}, {`"` + times(256, "a") + `"`, `"` + times(256, "a") + `"`},
		{"tag+kind*(as-when)", "tag + kind * (as - when)"}, {"send", "send"}, {"int", "int"}, {times(32, "n"), times(32, "n")}, {times(11, "-") + "x", times(11, "-") + "x"},
	} {
		wantActText(t, send(c.read, "inc"), "send "+c.text+" inc();")
		wantActText(t, send("self", "inc", c.read), "send self inc("+c.text+");")
		wantActText(t, send(c.read, "inc", c.read, "1", c.read), "send "+c.text+" inc("+c.text+", 1, "+c.text+");")
		wantActText(t, reply(c.read), "reply("+c.text+");")
		wantActText(t, reply("n", c.read, c.read), "reply(n, "+c.text+", "+c.text+");")
		wantChordText(t, withGuard(of(c.read)), "chord c: p() when "+c.text+" {\n\t}")
	}
	// A -0 counts as zero in a field that a node's Kind does not name.
	minus := whole(5)
	minus.Value.Real = math.Copysign(0, -1)
	minus.Value.Comp = complex(math.Copysign(0, -1), 0)
	wantActText(t, api.Act{Kind: api.ActReply, Args: []api.Expr{nodes(minus)}}, "reply(5);")
	wantActText(t, api.Act{Kind: api.ActSend, To: nodes(minus), Name: "t"}, "send 5 t();")
	wantChordText(t, withGuard(nodes(minus, whole(1), two(api.NodeLt, 0, 1))), "chord c: p() when 5 < 1 {\n\t}")
	wantActText(t, api.Act{Kind: api.ActReply, Args: []api.Expr{nodes(scaled(0.1)), nodes(said("\n\x80"))}}, `reply(3602879701896397p-55, "\x0a\x80");`)
}

// P10.2: chords with one part and several, with Vars and without, with a guard and without, with acts and without.
func TestChords(t *testing.T) {
	full := api.Chord{
		Name: "both", Parts: []api.Part{part("a", "x"), part("a", "y"), part("b"), part("c", "_", "_", "z"), part("d")}, Guard: of("x<y&&!(z==0)"),
		Body: []api.Act{send("self", "a", "x-1"), spawn("k", "v"), send("v", "b"), reply("v", `"s"`), reply(), become("j"), become("k")},
	}
	for _, c := range []struct {
		chord api.Chord
		text  string
	}{
		{chord("d", part("ping")), "chord d: ping() {\n\t}"},
		{chord("c", part("p", "x")), "chord c: p(x) {\n\t}"},
		{chord("c", part("p", "_")), "chord c: p(_) {\n\t}"},
		{chord("c", part("p", "x", "y")), "chord c: p(x, y) {\n\t}"},
		{chord("c", part("p", "x", "_", "y", "_")), "chord c: p(x, _, y, _) {\n\t}"},
		{chord("c", part("p"), part("q")), "chord c: p() & q() {\n\t}"},
		{chord("c", part("p", "x"), part("p", "x"), part("p", "x", "x")), "chord c: p(x) & p(x) & p(x, x) {\n\t}"},
		{chord("c", part("a"), part("b"), part("c"), part("d"), part("e"), part("f")), "chord c: a() & b() & c() & d() & e() & f() {\n\t}"},
		{withGuard(of("true")), "chord c: p() when true {\n\t}"},
		{withGuard(of("n")), "chord c: p() when n {\n\t}"},
		{withGuard(of("(a||b)&&c")), "chord c: p() when (a || b) && c {\n\t}"},
		{withGuard(api.Expr{}), "chord c: p() {\n\t}"},
		{withGuard(api.Expr{Nodes: []api.Node{}}), "chord c: p() {\n\t}"},
		{withBody(reply()), "chord c: p() {\n\t\treply();\n\t}"},
		{withBody(become("k"), become("k")), "chord c: p() {\n\t\tbecome k;\n\t\tbecome k;\n\t}"},
		{full, "chord both: a(x) & a(y) & b() & c(_, _, z) & d() when x < y && !(z == 0) {\n\t\tsend self a(x - 1);\n\t\tspawn k as v;\n\t\tsend v b();\n\t\treply(v, \"s\");\n\t\treply();\n\t\tbecome j;\n\t\tbecome k;\n\t}"},
	} {
		wantChordText(t, c.chord, c.text)
		d := c.chord
		d.Name = "d_2"
		wantText(t, kinds(kind("j"), kind("k", c.chord, d)), "kind j {\n}\nkind k {\n\t"+c.text+"\n\tchord d_2"+c.text[len("chord ")+len(c.chord.Name):]+"\n}\n")
	}
	many := withBody()
	text := "chord c: p() {\n"
	for range 40 {
		many.Body = append(many.Body, spawn("k", "v"))
		text += "\t\tspawn k as v;\n"
	}
	wantChordText(t, many, text+"\t}")
}

// P10.1: programs without tags, without kinds, without both and with both; what layer 9 asks besides is not asked here.
func TestPrograms(t *testing.T) {
	wantText(t, api.Program{}, "")
	wantText(t, tags(tag("ping")), "tag ping();\n")
	wantText(t, tags(tag("a", api.Int), tag("b", api.Real), tag("c", api.Comp), tag("d", api.Text)), "tag a(int);\ntag b(real);\ntag c(comp);\ntag d(text);\n")
	wantText(t, tags(tag("a", 1, 2, 3, 4, 4, 3, 2, 1), tag("a"), tag("a", 2, 2)), "tag a(int, real, comp, text, text, comp, real, int);\ntag a();\ntag a(real, real);\n")
	wantText(t, kinds(kind("k"), kind("j"), kind("k")), "kind k {\n}\nkind j {\n}\nkind k {\n}\n")
	p := api.Program{
		Tags: []api.Tag{tag("inc", api.Int, api.Text), tag("ping")},
		Kinds: []api.Kind{
			kind("k", api.Chord{
				Name: "c", Parts: []api.Part{part("inc", "n", "_"), part("ping")}, Guard: of("n<5"),
				Body: []api.Act{send("self+1", "inc", "n+1", `"a"`), spawn("k", "v"), reply("v", "1p0"), become("k")},
			}, chord("d", part("ping"))),
			kind("e"),
			kind("f", chord("c", part("none", "self")), chord("c", part("none"))),
		},
	}
	wantText(t, p, "tag inc(int, text);\ntag ping();\nkind k {\n\tchord c: inc(n, _) & ping() when n < 5 {\n\t\tsend self + 1 inc(n + 1, \"a\");\n\t\tspawn k as v;\n\t\treply(v, 1p0);\n\t\tbecome k;\n\t}\n\tchord d: ping() {\n\t}\n}\nkind e {\n}\nkind f {\n\tchord c: none(self) {\n\t}\n\tchord c: none() {\n\t}\n}\n")
	// More than layer 9 takes, of everything.
	var l api.Program
	text := ""
	for range 70 {
		l.Tags = append(l.Tags, tag("t", 1, 1, 1, 1, 1, 1, 1))
		text += "tag t(int, int, int, int, int, int, int);\n"
	}
	for range 40 {
		l.Kinds = append(l.Kinds, kind("k"))
		text += "kind k {\n}\n"
	}
	wantText(t, l, text)
}

// P10.1: lists that are nil and empty ones of the same program have one text.
func TestEmptyLists(t *testing.T) {
	none := api.Expr{Nodes: []api.Node{}}
	c := api.Chord{Name: "c", Parts: []api.Part{{Tag: "p", Vars: []string{}}}, Guard: none, Body: []api.Act{
		{Kind: api.ActSend, To: of("1"), Name: "t", Args: []api.Expr{}}, {Kind: api.ActSpawn, Name: "k", Var: "v", To: none, Args: []api.Expr{}},
		{Kind: api.ActReply, To: none, Args: []api.Expr{}}, {Kind: api.ActBecome, To: none, Name: "k", Args: []api.Expr{}},
	}}
	acts := []string{"send 1 t();", "spawn k as v;", "reply();", "become k;"}
	for i, a := range c.Body {
		wantActText(t, a, acts[i])
	}
	wantChordText(t, c, aroundActs(acts...))
	c.Body = []api.Act{}
	wantChordText(t, c, "chord c: p() {\n\t}")
	wantText(t, api.Program{Tags: []api.Tag{}, Kinds: []api.Kind{}}, "")
	wantText(t, api.Program{Tags: []api.Tag{{Name: "t", Types: []int{}}}, Kinds: []api.Kind{{Name: "k", Chords: []api.Chord{}}}}, "tag t();\nkind k {\n}\n")
	wantChordFault(t, api.Chord{Name: "c", Parts: []api.Part{}}, api.ErrDecl)
}
