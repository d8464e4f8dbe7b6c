package print_test

import (
	"math"
	"testing"

	"chordmail/api"
	"chordmail/expr"
)

// wrong is an expression that may not be, and May's error of it.
type wrong struct {
	e     api.Expr
	fault api.Errno
}

// signed is a variable with so many signs ahead of it.
func signed(n int) api.Expr {
	l := []api.Node{called("x")}
	for i := range n {
		l = append(l, one(api.NodeNeg, i))
	}
	return nodes(l...)
}

// sums is a sum of 2 to the power n variables, which is n + 1 deep.
func sums(n int) api.Expr {
	if n == 0 {
		return nodes(called("x"))
	}
	half := sums(n - 1).Nodes
	l := append([]api.Node{}, half...)
	for _, x := range half {
		if x.Kind == api.NodeAdd {
			x.A, x.B = x.A+len(half), x.B+len(half)
		}
		l = append(l, x)
	}
	return nodes(append(l, two(api.NodeAdd, len(half)-1, 2*len(half)-1))...)
}

// wrongs are expressions with nodes, with each of May's errors.
func wrongs() []wrong {
	filled := called("x")
	filled.Value.Int = 1
	bare := whole(1)
	bare.Name = "x"
	full := sums(5).Nodes
	deep := signed(12)
	var l []wrong
	for _, e := range []api.Expr{
		nodes(api.Node{}), nodes(api.Node{Kind: 99}), nodes(api.Node{Kind: -1}), nodes(api.Node{Kind: math.MinInt}), nodes(called("")), nodes(called("_")), nodes(called("re")), nodes(called("true")), nodes(called("a b")), nodes(called("x;")), nodes(called(times(33, "n"))),
		nodes(whole(-1)), nodes(scaled(-1)), nodes(scaled(math.NaN())), nodes(scaled(math.Inf(1))), nodes(scaled(math.Copysign(0, -1))), nodes(said(times(257, "a"))), nodes(api.Node{Kind: api.NodeValue}), nodes(api.Node{Kind: api.NodeValue, Value: api.Value{Kind: api.Comp}}), nodes(api.Node{Kind: api.NodeValue, Value: api.Value{Kind: api.Bool, Int: 2}}),
		nodes(filled), nodes(bare), nodes(called("x"), called("y")), nodes(one(api.NodeNeg, 0)), nodes(one(api.NodeNeg, -1)), nodes(called("x"), one(api.NodeNeg, 1)), nodes(called("x"), two(api.NodeAdd, 0, 0)), nodes(called("x"), called("y"), two(api.NodeAdd, 1, 0)), nodes(called("x"), two(api.NodeNeg, 0, 1)),
		nodes(append(deep.Nodes[:12:12], called("y"))...),
	} {
		l = append(l, wrong{e, api.ErrExpr})
	}
	return append(l, wrong{deep, api.ErrDepth}, wrong{signed(63), api.ErrDepth}, wrong{signed(64), api.ErrNodes}, wrong{sums(6), api.ErrNodes},
		wrong{nodes(append(full[:63:63], called("x"), called("y"))...), api.ErrNodes}, wrong{nodes(make([]api.Node, 65)...), api.ErrNodes}, wrong{nodes(make([]api.Node, 1000)...), api.ErrNodes})
}

func TestWrongs(t *testing.T) {
	found := map[api.Errno]int{}
	for _, w := range wrongs() {
		if fault := expr.May(w.e); fault != w.fault {
			complain(t, "May of %+v: %v; want %v", w.e, fault, w.fault)
		}
		found[w.fault]++
	}
	if len(found) != 3 {
		t.Error(found)
	}
	for _, e := range []api.Expr{signed(11), sums(5)} {
		if fault := expr.May(e); fault != api.OK {
			t.Error(fault)
		}
	}
}

// P10.1, P10.2, P10.3: each of May's errors, of a guard, a target, an argument of a send and of a reply, in each place of the list.
func TestFaults(t *testing.T) {
	for _, w := range append(wrongs(), wrong{api.Expr{}, api.ErrExpr}, wrong{api.Expr{Nodes: []api.Node{}}, api.ErrExpr}) {
		if len(w.e.Nodes) > 0 {
			wantChordFault(t, withGuard(w.e), w.fault)
		}
		wantActFault(t, api.Act{Kind: api.ActSend, To: w.e, Name: "t"}, w.fault)
		wantActFault(t, api.Act{Kind: api.ActSend, To: w.e, Name: "t", Args: exprs("1", "x")}, w.fault)
		for _, l := range [][]api.Expr{{w.e}, {w.e, of("1")}, {of("1"), w.e}, {of("1"), of("x"), w.e, of("x")}, {of("1"), of("1"), of("1"), of("1"), of("1"), of("1"), of("1"), w.e}} {
			wantActFault(t, api.Act{Kind: api.ActSend, To: of("self"), Name: "t", Args: l}, w.fault)
			wantActFault(t, api.Act{Kind: api.ActReply, Args: l}, w.fault)
		}
	}
	// What may be as great as it is.
	for _, e := range []api.Expr{signed(11), sums(5)} {
		text, _ := expr.Print(e)
		wantChordText(t, withGuard(e), "chord c: p() when "+text+" {\n\t}")
		wantActText(t, api.Act{Kind: api.ActSend, To: e, Name: "t", Args: []api.Expr{e, e}}, "send "+text+" t("+text+", "+text+");")
	}
}

// slots are the places of a program's expressions whose errors count, in the order in which they do.
func slots(p *api.Program) []*api.Expr {
	c, d, e := &p.Kinds[1].Chords[0], &p.Kinds[1].Chords[1], &p.Kinds[3].Chords[0]
	return []*api.Expr{
		&c.Guard, &c.Body[0].To, &c.Body[0].Args[0], &c.Body[0].Args[1], &c.Body[2].Args[0], &c.Body[2].Args[1], &c.Body[3].To,
		&d.Guard, &d.Body[0].Args[0], &d.Body[2].To, &d.Body[2].Args[0],
		&e.Guard, &e.Body[0].To, &e.Body[0].Args[0],
	}
}

const slotsText = `tag t(int, int); kind i { } kind k {
chord c: t(x, y) when x < y { send self t(x, y); spawn k as v; reply(x, y); send v u(); become j; }
chord d: u() when true { reply(1); become k; send 1 w(2); }
chord e: u() { } }
kind j { chord c: u() { } } kind l { chord c: u() when true { send 1 w(2); } }`

// P10.1: of several expressions that have errors the first one's is told: a guard ahead of the body, a target ahead of the arguments, an earlier act, chord, kind ahead of a later one.
func TestFirstFault(t *testing.T) {
	p := parsed(t, slotsText)
	three := []wrong{{nodes(api.Node{Kind: 99}), api.ErrExpr}, {signed(12), api.ErrDepth}, {sums(6), api.ErrNodes}}
	for i := range slots(&p) {
		for _, w := range three {
			with := changed(p, func(p *api.Program) { *slots(p)[i] = w.e })
			wantFault(t, with, w.fault)
			for _, other := range three {
				// All behind it.
				wantFault(t, changed(with, func(p *api.Program) {
					for _, e := range slots(p)[i+1:] {
						*e = other.e
					}
				}), w.fault)
				// One of them.
				for j := i + 1; j < len(slots(&p)); j++ {
					q := changed(with, func(p *api.Program) { *slots(p)[j] = other.e })
					wantFault(t, q, w.fault)
					for _, c := range []api.Chord{q.Kinds[1].Chords[0], q.Kinds[1].Chords[1], q.Kinds[3].Chords[0]} {
						wantChord(t, c, refChord(c))
						for _, a := range c.Body {
							wantAct(t, a, refAct(a))
						}
					}
				}
			}
		}
	}
	if n := len(slots(&p)); n != len(programExprs(p)) {
		t.Errorf("%d slots", n)
	}
}

// P10.1: a guard without nodes is none, and its chord's other expressions are looked at all the same.
func TestNoGuard(t *testing.T) {
	c := withBody(reply("1"))
	c.Guard = api.Expr{Nodes: []api.Node{}}
	wantChordText(t, c, "chord c: p() {\n\t\treply(1);\n\t}")
	c.Body = []api.Act{{Kind: api.ActReply, Args: []api.Expr{signed(12)}}}
	wantChordFault(t, c, api.ErrDepth)
	c.Body = []api.Act{{Kind: api.ActReply, Args: []api.Expr{{}}}}
	wantChordFault(t, c, api.ErrExpr)
}

// P10.1: a To and Args that an act's Kind does not name are not looked at for May's error, and refused all the same.
func TestNotLookedAt(t *testing.T) {
	for _, w := range append(wrongs(), wrong{e: of("1")}, wrong{e: of("x + y")}) {
		for _, a := range []api.Act{
			{Kind: api.ActSpawn, Name: "k", Var: "v", To: w.e}, {Kind: api.ActSpawn, Name: "k", Var: "v", Args: []api.Expr{w.e}}, {Kind: api.ActSpawn, Name: "k", Var: "v", Args: []api.Expr{of("1"), w.e}},
			{Kind: api.ActBecome, Name: "k", To: w.e}, {Kind: api.ActBecome, Name: "k", Args: []api.Expr{w.e}}, {Kind: api.ActBecome, Name: "k", To: w.e, Args: []api.Expr{w.e, w.e}},
			{Kind: api.ActReply, To: w.e}, {Kind: api.ActReply, To: w.e, Args: exprs("1", "x")},
			{Kind: 0, To: w.e, Args: []api.Expr{w.e}}, {Kind: 5, To: w.e, Name: "t"}, {Kind: 9, Args: []api.Expr{w.e}}, {Kind: -1, To: w.e},
		} {
			wantActFault(t, a, api.ErrDecl)
			// One that is looked at is told, wherever it stands.
			for _, l := range [][]api.Act{{a, {Kind: api.ActReply, Args: []api.Expr{signed(12)}}}, {{Kind: api.ActReply, Args: []api.Expr{signed(12)}}, a}} {
				wantChordFault(t, withBody(l...), api.ErrDepth)
			}
		}
	}
	wantActFault(t, api.Act{Kind: api.ActReply, To: sums(6), Args: []api.Expr{signed(12)}}, api.ErrDepth)
	for _, a := range []api.Act{{Kind: api.ActSpawn, Name: "k", Var: "v"}, {Kind: api.ActBecome, Name: "k"}} {
		a.Args = []api.Expr{{}}
		wantActFault(t, a, api.ErrDecl)
		a.Args, a.To = nil, nodes(api.Node{})
		wantActFault(t, a, api.ErrDecl)
	}
}

// P10.1: an expression's error is told ahead of all else that is wrong.
func TestFaultAheadOfAll(t *testing.T) {
	deep := withGuard(signed(12))
	for _, do := range []func(p *api.Program){
		func(p *api.Program) { p.Tags = []api.Tag{tag("kind")} },
		func(p *api.Program) { p.Tags = []api.Tag{tag("a", 0)} },
		func(p *api.Program) { p.Tags = []api.Tag{tag(times(40000, "a"))} },
		func(p *api.Program) { p.Kinds[0].Name = "" },
		func(p *api.Program) { p.Kinds[0].Name = times(32769, "k") },
		func(p *api.Program) { p.Kinds[0].Chords = []api.Chord{chord("c"), deep} },
		func(p *api.Program) {
			p.Kinds = append([]api.Kind{kind("j", withBody(api.Act{Kind: 9}, api.Act{Kind: api.ActReply, Var: "x"}))}, p.Kinds...)
		},
		func(p *api.Program) { p.Kinds = append(p.Kinds, kind(times(40000, "k"))) },
		func(p *api.Program) { p.Kinds[0].Chords[0].Parts = nil },
		func(p *api.Program) {
			p.Kinds[0].Chords[0].Body = []api.Act{{Kind: 9}, spawn("", ""), become(times(40000, "k"))}
		},
		func(p *api.Program) { p.Kinds[0].Chords[0].Name = "c: p() { } chord d" },
	} {
		wantFault(t, changed(kinds(kind("k", deep)), do), api.ErrDepth)
	}
	c := deep
	c.Name, c.Parts = times(40000, "c"), nil
	wantChordFault(t, c, api.ErrDepth)
	wantActFault(t, api.Act{Kind: api.ActSend, To: signed(12), Name: times(40000, "c"), Var: "x"}, api.ErrDepth)
	wantActFault(t, api.Act{Kind: api.ActSend, To: of("1"), Name: "", Args: []api.Expr{sums(6)}}, api.ErrNodes)
}
