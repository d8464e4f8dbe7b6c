package valid_test

import (
	"slices"
	"testing"

	"chordmail/api"
	"chordmail/valid"
)

// wrongExpr is an expression and the error that types has of it, where n, x, z and t are variables, one of each type.
type wrongExpr struct {
	e     api.Expr
	fault api.Errno
}

// wrongExprs have no type: each of the errors of layer 6.
func wrongExprs() []wrongExpr {
	minus := func(n int) api.Expr {
		l := []api.Node{whole(1)}
		for i := range n {
			l = append(l, one(api.NodeNeg, i))
		}
		return nodes(l...)
	}
	odd := whole(1)
	odd.Name = "n"
	half := whole(1)
	half.Value.Real = 0.5
	below := whole(-5)
	return []wrongExpr{
		{minus(12), api.ErrDepth}, {minus(63), api.ErrDepth}, {minus(64), api.ErrNodes}, {minus(1000), api.ErrNodes},
		{nodes(make([]api.Node, 65)...), api.ErrNodes}, {nodes(api.Node{}), api.ErrExpr}, {nodes(whole(1), whole(2)), api.ErrExpr}, {nodes(one(api.NodeNeg, 0)), api.ErrExpr}, {nodes(two(api.NodeAdd, 0, 1), whole(1), whole(2)), api.ErrExpr}, {nodes(whole(1), two(api.NodeAdd, 0, 0)), api.ErrExpr}, {nodes(whole(1), whole(2), two(api.NodeAdd, 1, 0)), api.ErrExpr}, {nodes(whole(1), one(27, 0)), api.ErrExpr}, {nodes(whole(1), one(-1, 0)), api.ErrExpr},
		{nodes(below), api.ErrExpr}, {nodes(odd), api.ErrExpr}, {nodes(half), api.ErrExpr}, {nodes(called("re")), api.ErrExpr}, {nodes(called("true")), api.ErrExpr}, {nodes(called("")), api.ErrExpr}, {nodes(called("_")), api.ErrExpr}, {nodes(called(times(33, "n"))), api.ErrExpr}, {nodes(api.Node{Kind: api.NodeValue, Value: api.Value{Kind: api.Comp}}), api.ErrExpr}, {nodes(api.Node{Kind: api.NodeValue, Value: api.Value{Kind: 6}}), api.ErrExpr}, {nodes(api.Node{Kind: api.NodeValue, Value: api.Value{Kind: api.Text, Text: times(257, "a")}}), api.ErrExpr},
		{of("q"), api.ErrName}, {of("n + q"), api.ErrName}, {of("N"), api.ErrName}, {of("Self"), api.ErrName}, {of("q + x"), api.ErrName}, {of("c"), api.ErrName}, {of("all"), api.ErrName}, {of("send"), api.ErrName}, {of("int"), api.ErrName},
		{of("n + x"), api.ErrType}, {of("self + x"), api.ErrType}, {of("-t"), api.ErrType}, {of("!n"), api.ErrType}, {of("z < z"), api.ErrType}, {of("(x + n) + q"), api.ErrType}, {of("x % x"), api.ErrType}, {of("z / z"), api.ErrType}, {of("true < false"), api.ErrType}, {of("len(n)"), api.ErrType},
	}
}

// typed are expressions by their types, over the same variables.
func typed() [6][]string {
	return [6][]string{
		api.Int:  {"n", "self", "0", "9223372036854775807", "-n", "n + self * 2", "at(t, 0)", "len(t)", "1 / 0"},
		api.Real: {"x", "0p0", "-x", "re(z)", "real(n)", "size2(comp(x, x))", "1p0 / 0p0"},
		api.Comp: {"z", "comp(x, 1p0)", "z * z", "-z"},
		api.Text: {"t", `""`, `"a"`, "str(n)", "cat(t, t)"},
		api.Bool: {"true", "!true", "n < 2", "n == n || x < x", "z != z", "t == \"a\" && false"},
	}
}

// withAct is inBody's program with one more act, made by hand, behind others.
func withAct(t *testing.T, a api.Act) api.Program {
	p := inBody(t, "reply(n);")
	p.Kinds[0].Chords[0].Body = append(p.Kinds[0].Chords[0].Body, a)
	return p
}

// P9.1: a guard is of type bool, or told with layer 6's error; one without nodes is none.
func TestGuards(t *testing.T) {
	with := func(e api.Expr) api.Program {
		return changed(inBody(t, "reply(n);"), func(p *api.Program) { p.Kinds[0].Chords[0].Guard = e })
	}
	at := valid.Place{In: valid.InGuard}
	wantMay(t, with(api.Expr{}))
	wantMay(t, with(api.Expr{Nodes: []api.Node{}}))
	for kind, l := range typed() {
		for _, text := range l {
			if kind == api.Bool {
				wantMay(t, with(of(text)))
			} else {
				wantBreach(t, with(of(text)), at, api.ErrType)
			}
		}
	}
	for _, w := range wrongExprs() {
		wantBreach(t, with(w.e), at, w.fault)
	}
}

// P9.1: the variables of a guard are its own chord's, by the types of the tag's fields.
func TestGuardVars(t *testing.T) {
	program := func(guard string) api.Program {
		return parsed(t, "tag a(int, real, comp); tag b(text, int); kind j { chord c: a(p, q, r) { } } kind k { chord c: a(v, _, _) { } chord d: b(t, n) & a(_, x, z) & b(_, m) when "+guard+" { spawn k as s; } chord e: a(w, _, _) { spawn k as u; } }")
	}
	for _, guard := range []string{"n < m", "self < n", "self == self", "t < \"a\"", "x < 1p0", "z == z", "len(t) == n + m + self", "true"} {
		wantMay(t, program(guard))
	}
	for guard, fault := range map[string]api.Errno{
		"s < 1": api.ErrName, "v < 1": api.ErrName, "w < 1": api.ErrName, "u < 1": api.ErrName, "p < 1": api.ErrName, "q < 1p0": api.ErrName, "r == r": api.ErrName, "d == d": api.ErrName, "k == k": api.ErrName, "a == a": api.ErrName, "n < M": api.ErrName,
		"x < n": api.ErrType, "t < n": api.ErrType, "z < z": api.ErrType, "self": api.ErrType, "self == x": api.ErrType, "n < m && n": api.ErrType, "m": api.ErrType,
	} {
		wantBreach(t, program(guard), valid.Place{In: valid.InGuard, Kind: 1, Chord: 1}, fault)
	}
}

// P9.1: an act of each kind, with each field that this does not name set to something; empty lists count as nothing.
func TestActFields(t *testing.T) {
	at := valid.Place{In: valid.InAct, Act: 1}
	to := func(a *api.Act) { a.To = of("1") }
	name := func(a *api.Act) { a.Name = "k" }
	v := func(a *api.Act) { a.Var = "v" }
	args := func(a *api.Act) { a.Args = exprs("1") }
	junk := func(a *api.Act) { a.To = nodes(api.Node{}) }
	none := func(a *api.Act) { a.Args = make([]api.Expr, 1) }
	blank := func(a *api.Act) { a.Name = " " }
	under := func(a *api.Act) { a.Var = "_" }
	for _, c := range []struct {
		a      api.Act
		others []func(*api.Act)
	}{
		{send("n", "inc", "n", "t"), []func(*api.Act){v, under}},
		{send("n", "ping"), []func(*api.Act){v, under}},
		{spawn("k", "v"), []func(*api.Act){to, args, junk, none}},
		{reply(), []func(*api.Act){to, name, v, junk, blank, under}},
		{reply("1", "t"), []func(*api.Act){to, name, v, junk, blank, under}},
		{become("k"), []func(*api.Act){to, v, args, junk, none, under}},
	} {
		wantMay(t, withAct(t, c.a))
		empty := clonedAct(c.a)
		if len(empty.To.Nodes) == 0 {
			empty.To.Nodes = []api.Node{}
		}
		if len(empty.Args) == 0 {
			empty.Args = []api.Expr{}
		}
		wantMay(t, withAct(t, empty))
		for _, do := range c.others {
			a := clonedAct(c.a)
			do(&a)
			wantBreach(t, withAct(t, a), at, api.ErrBody)
			for _, further := range c.others {
				b := clonedAct(a)
				further(&b)
				wantBreach(t, withAct(t, b), at, api.ErrBody)
			}
		}
	}
}

// P9.1: a kind that is none of the four, whatever else is set.
func TestActKinds(t *testing.T) {
	for _, kind := range []int{0, -1, 5, 6, 7, 9, 255, 256, 257, 258, 1 << 32, 1<<32 + 1, 1<<63 - 1, -1 << 63} {
		for _, a := range []api.Act{{}, send("n", "inc", "n", "t"), spawn("k", "v"), reply(), reply("1"), become("k")} {
			a.Kind = kind
			wantBreach(t, withAct(t, a), valid.Place{In: valid.InAct, Act: 1}, api.ErrBody)
		}
	}
	wantBreach(t, withAct(t, api.Act{}), valid.Place{In: valid.InAct, Act: 1}, api.ErrBody)
}

// P9.1: a send's target, tag and arguments.
func TestSends(t *testing.T) {
	at := valid.Place{In: valid.InAct, Act: 1}
	target := func(e api.Expr) api.Program {
		return withAct(t, api.Act{Kind: api.ActSend, To: e, Name: "inc", Args: exprs("1", `"a"`)})
	}
	wantBreach(t, target(api.Expr{}), at, api.ErrExpr)
	wantBreach(t, target(api.Expr{Nodes: []api.Node{}}), at, api.ErrExpr)
	for kind, l := range typed() {
		for _, text := range l {
			if kind == api.Int {
				wantMay(t, target(of(text)))
			} else {
				wantBreach(t, target(of(text)), at, api.ErrType)
			}
		}
	}
	for _, w := range wrongExprs() {
		wantBreach(t, target(w.e), at, w.fault)
	}
	for _, name := range []string{"", "in", "incs", "Inc", "inc ", " inc", "pong", "k", "c", "n", "self", "_", "send"} {
		wantBreach(t, withAct(t, send("1", name, "1", `"a"`)), at, api.ErrNoTag)
		wantBreach(t, withAct(t, send("1", name)), at, api.ErrNoTag)
	}
	for tag, fields := range map[string]int{"ping": 0, "inc": 2, "all": 4} {
		for n := range 9 {
			args := slices.Repeat([]string{"n", "t", "true"}, 3)[:n]
			if n != fields {
				wantBreach(t, withAct(t, send("1", tag, args...)), at, api.ErrFields)
			}
		}
	}
	wantMay(t, withAct(t, send("1", "ping")))
	wantMay(t, withAct(t, send("1", "all", "n", "x", "z", "t")))
}

// P9.1: a send's arguments one by one: of the type of the field at their place, or layer 6's error.
func TestSendArgs(t *testing.T) {
	kinds := []int{api.Int, api.Real, api.Comp, api.Text}
	for i, wanted := range kinds {
		with := func(e api.Expr) api.Program {
			a := send("n", "all", "n", "x", "z", "t")
			a.Args[i] = e
			return withAct(t, a)
		}
		at := valid.Place{In: valid.InArg, Act: 1, Arg: i}
		for kind, l := range typed() {
			for _, text := range l {
				if kind == wanted {
					wantMay(t, with(of(text)))
				} else {
					wantBreach(t, with(of(text)), at, api.ErrType)
				}
			}
		}
		for _, w := range wrongExprs() {
			wantBreach(t, with(w.e), at, w.fault)
		}
		wantBreach(t, with(api.Expr{}), at, api.ErrExpr)
		wantBreach(t, with(of("v")), at, api.ErrName)
	}
}

// P9.1: a reply has none to MaxFields values of whatever types but bool.
func TestReplies(t *testing.T) {
	for n := range 7 {
		args := slices.Repeat([]string{"n", "t", "x", "z"}, 2)[:n]
		wantMay(t, withAct(t, reply(args...)))
		for i := range n {
			with := func(e api.Expr) api.Program {
				a := reply(args...)
				a.Args[i] = e
				return withAct(t, a)
			}
			at := valid.Place{In: valid.InArg, Act: 1, Arg: i}
			for kind, l := range typed() {
				for _, text := range l {
					if kind == api.Bool {
						wantBreach(t, with(of(text)), at, api.ErrType)
					} else {
						wantMay(t, with(of(text)))
					}
				}
			}
			for _, w := range wrongExprs() {
				wantBreach(t, with(w.e), at, w.fault)
			}
			wantBreach(t, with(api.Expr{}), at, api.ErrExpr)
		}
	}
	for _, n := range []int{7, 8, 12, 64, 256, 1000} {
		for _, text := range []string{"n", "true", "q"} {
			wantBreach(t, withAct(t, reply(slices.Repeat([]string{text}, n)...)), valid.Place{In: valid.InAct, Act: 1}, api.ErrFields)
		}
	}
}

// P9.1: the kind that is spawned, or become: each that there is, its own too.
func TestActsOfKinds(t *testing.T) {
	for _, a := range []api.Act{spawn("k", "v"), spawn("j", "v"), become("k"), become("j")} {
		wantMay(t, withAct(t, a))
	}
	for _, name := range []string{"", "l", "K", "kk", "k ", " k", "_", "c", "inc", "n", "self", "kind"} {
		at := valid.Place{In: valid.InAct, Act: 1}
		wantBreach(t, withAct(t, spawn(name, "v")), at, api.ErrNoKind)
		wantBreach(t, withAct(t, spawn(name, "")), at, api.ErrNoKind)
		wantBreach(t, withAct(t, become(name)), at, api.ErrNoKind)
	}
	// One that stands later, one far away.
	p := parsed(t, "tag t(); kind a { chord c: t() { become b; become z; spawn z as v; spawn b as w; } } kind b { } kind z { chord c: t() { spawn a as v; become a; become z; } }")
	wantMay(t, p)
	for i := range 4 {
		q := clonedProgram(p)
		q.Kinds[0].Chords[0].Body[i].Name = "t"
		wantBreach(t, q, valid.Place{In: valid.InAct, Act: i}, api.ErrNoKind)
	}
}

// P9.1: a spawn's Var is an int behind it: in targets and arguments; not ahead of it, not in the spawn's own guard, not in another chord.
func TestSpawnVars(t *testing.T) {
	for _, acts := range []string{
		"spawn k as v; send v ping();", "spawn k as v; send 1 inc(v, t);", "spawn k as v; reply(v);", "spawn k as v; spawn j as w; reply(v + w, w); send w - v inc(v * w, str(v));", "reply(); spawn k as v; become k; become j; reply(n); send v + self ping();",
	} {
		wantMay(t, inBody(t, acts))
	}
	for _, c := range []struct {
		acts  string
		at    valid.Place
		fault api.Errno
	}{
		{"send v ping(); spawn k as v;", valid.Place{In: valid.InAct}, api.ErrName},
		{"reply(); send v ping(); spawn k as v; send v ping();", valid.Place{In: valid.InAct, Act: 1}, api.ErrName},
		{"send 1 inc(v, t); spawn k as v;", valid.Place{In: valid.InArg}, api.ErrName},
		{"reply(n, v); spawn k as v;", valid.Place{In: valid.InArg, Arg: 1}, api.ErrName},
		{"spawn k as v; send w ping(); spawn k as w;", valid.Place{In: valid.InAct, Act: 1}, api.ErrName},
		{"spawn k as v; reply(v, v, w); spawn k as w;", valid.Place{In: valid.InArg, Act: 1, Arg: 2}, api.ErrName},
		{"spawn k as v; reply(k);", valid.Place{In: valid.InArg, Act: 1}, api.ErrName},
		{"spawn k as v; reply(v + x);", valid.Place{In: valid.InArg, Act: 1}, api.ErrType},
		{"spawn k as v; reply(); send 1 all(v, v, z, t);", valid.Place{In: valid.InArg, Act: 2, Arg: 1}, api.ErrType},
		{"spawn k as v; send 1 inc(1, v);", valid.Place{In: valid.InArg, Act: 1, Arg: 1}, api.ErrType},
		{"spawn k as v; send v == 1 ping();", valid.Place{In: valid.InAct, Act: 1}, api.ErrType},
	} {
		wantBreach(t, inBody(t, c.acts), c.at, c.fault)
	}
	in := func(in, kind, chord int) valid.Place { return valid.Place{In: in, Kind: kind, Chord: chord} }
	wantBreach(t, inPart(t, "ping() when v == v { spawn k as v; }"), in(valid.InGuard, 0, 0), api.ErrName)
	two := func(other string) api.Program {
		return parsed(t, exampleTags+"kind k { chord c: ping() { spawn k as v; reply(v); } chord d: ping() "+other+" } kind j { chord e: ping() { } }")
	}
	wantMay(t, two("{ spawn k as v; reply(v); }"))
	wantBreach(t, two("when v == v { }"), in(valid.InGuard, 0, 1), api.ErrName)
	wantBreach(t, two("{ send v ping(); }"), in(valid.InAct, 0, 1), api.ErrName)
	wantBreach(t, two("{ reply(v); }"), in(valid.InArg, 0, 1), api.ErrName)
	wantBreach(t, two("{ } } kind l { chord f: ping() { reply(v); }"), in(valid.InArg, 1, 0), api.ErrName)
}

// P9.1: variables of one chord are none of another's, in its acts.
func TestActVars(t *testing.T) {
	program := func(acts string) api.Program {
		return parsed(t, "tag a(int, text); tag b(real); kind j { chord c: a(i, _) { reply(i); } } kind k { chord c: a(v, w) { reply(v, w); } chord d: a(_, t) & b(x) { "+acts+" } chord e: a(n, m) { reply(n, m); } }")
	}
	wantMay(t, program("reply(t, x, self); send self b(x); send len(t) a(self, t);"))
	for _, name := range []string{"i", "v", "w", "n", "m", "d", "k", "a"} {
		wantBreach(t, program("reply(t, "+name+");"), valid.Place{In: valid.InArg, Kind: 1, Chord: 1, Arg: 1}, api.ErrName)
		wantBreach(t, program("reply(); send "+name+" b(x);"), valid.Place{In: valid.InAct, Kind: 1, Chord: 1, Act: 1}, api.ErrName)
	}
}
