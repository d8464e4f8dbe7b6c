package types_test

import (
	"math"
	"math/rand"
	"strings"
	"testing"

	"chordmail/api"
	"chordmail/expr"
	"chordmail/types"
)

// leaf is a variable of a type of some.
func leaf(kind int) api.Node { return called(some[kind-1].Name) }

func nodesOf(nodes ...api.Node) api.Expr { return api.Expr{Nodes: nodes} }

// P6.1 to P6.4: each kind of node over each type, and each pair of types: what the chapter's table says, or ErrType at it.
func TestEachKind(t *testing.T) {
	good := 0
	hold := func(kind int, e api.Expr, sides ...int) {
		t.Helper()
		is := tableOf(kind, sides[0], append(sides, 0)[1])
		if is == 0 {
			wantWrong(t, e, some, len(sides), api.ErrType)
			return
		}
		good++
		wantKinds(t, e, some, append(sides[:len(sides):len(sides)], is)...)
	}
	for kind := api.NodeNeg; kind <= api.NodeStr; kind++ {
		for a := api.Int; a <= api.Bool; a++ {
			if !hasTwo(kind) {
				hold(kind, nodesOf(leaf(a), one(kind, 0)), a)
				continue
			}
			for b := api.Int; b <= api.Bool; b++ {
				hold(kind, nodesOf(leaf(a), leaf(b), two(kind, 0, 1)), a, b)
			}
		}
	}
	if good != 49 {
		t.Errorf("%d kinds over types have a type; want 49", good)
	}
}

// P6.1 to P6.4: each kind of node over those that are made by each other kind, on both sides.
func TestNested(t *testing.T) {
	good := 0
	for _, r := range table {
		for _, inner := range table {
			nodes := []api.Node{leaf(inner.a)}
			if inner.b != 0 {
				nodes = append(nodes, leaf(inner.b))
			}
			n := len(nodes)
			nodes = append(nodes, api.Node{Kind: inner.kind, B: n - 1})
			if inner.b == 0 {
				nodes[n].B = 0
			}
			if r.b == 0 {
				nodes = append(nodes, one(r.kind, n))
			} else {
				nodes = append(nodes, leaf(r.b), two(r.kind, n, n+1))
			}
			if wantReference(t, api.Expr{Nodes: nodes}, some) == api.OK {
				good++
			}
			if r.b == 0 {
				continue
			}
			right := []api.Node{leaf(r.a)}
			for _, m := range nodes[:n+1] {
				if m.Kind != api.NodeVar {
					m.A++
				}
				if hasTwo(m.Kind) {
					m.B++
				}
				right = append(right, m)
			}
			if wantReference(t, api.Expr{Nodes: append(right, two(r.kind, 0, n+1))}, some) == api.OK {
				good++
			}
		}
	}
	if good < 300 {
		t.Errorf("just %d of the expressions have types", good)
	}
}

// P6.2: each kind of value by itself, and with a sign or a word.
func TestValues(t *testing.T) {
	for _, c := range []struct {
		v    api.Value
		kind int
	}{
		{api.Value{Kind: api.Int}, api.Int}, {api.Value{Kind: api.Int, Int: 5}, api.Int}, {api.Value{Kind: api.Int, Int: math.MaxInt64}, api.Int},
		{api.Value{Kind: api.Real}, api.Real}, {api.Value{Kind: api.Real, Real: 0.5}, api.Real}, {api.Value{Kind: api.Real, Real: math.MaxFloat64}, api.Real},
		{api.Value{Kind: api.Text}, api.Text}, {api.Value{Kind: api.Text, Text: "1"}, api.Text}, {api.Value{Kind: api.Text, Text: strings.Repeat("\x00", 256)}, api.Text},
		{api.Value{Kind: api.Bool}, api.Bool}, {api.Value{Kind: api.Bool, Int: 1}, api.Bool},
	} {
		n := api.Node{Kind: api.NodeValue, Value: c.v}
		for _, vars := range [][]api.Field{nil, {}, some} {
			wantKinds(t, nodesOf(n), vars, c.kind)
		}
		for kind := api.NodeNeg; kind <= api.NodeStr; kind++ {
			e := nodesOf(n, one(kind, 0))
			if hasTwo(kind) {
				e = nodesOf(n, n, two(kind, 0, 1))
			}
			wantReference(t, e, nil)
		}
	}
	// A complex number is no leaf: it is made by comp alone.
	wantWrong(t, nodesOf(api.Node{Kind: api.NodeValue, Value: api.Value{Kind: api.Comp, Comp: 1i}}), some, 0, api.ErrExpr)
	wantKinds(t, parsed(t, "comp(0p0, 1p0)"), nil, api.Real, api.Real, api.Comp)
}

// sums are 2n-1 nodes: n leaves, which + takes together by pairs.
func sums(n int, leaf api.Node) []api.Node {
	if n == 1 {
		return []api.Node{leaf}
	}
	left := sums(n-n/2, leaf)
	all := left
	for _, m := range sums(n/2, leaf) {
		if m.Kind == api.NodeAdd {
			m.A, m.B = m.A+len(left), m.B+len(left)
		}
		all = append(all, m)
	}
	return append(all, two(api.NodeAdd, len(left)-1, len(all)-1))
}

// repeated is a list of one kind.
func repeated(kind, n int) []int {
	l := make([]int, n)
	for i := range l {
		l[i] = kind
	}
	return l
}

// P6.1, P6.4: the greatest expressions, wrong at each of their nodes.
func TestGreatest(t *testing.T) {
	wide := append(sums(32, called("n")), one(api.NodeNeg, 62))
	deep := signed("n", 11)
	long := parsed(t, strings.Repeat("(n - ", 10)+"-n"+strings.Repeat(")", 10)).Nodes
	for _, nodes := range [][]api.Node{wide, deep, long} {
		e := api.Expr{Nodes: nodes}
		if fault := expr.May(e); fault != api.OK {
			t.Fatalf("May: %v", fault)
		}
		wantKinds(t, e, some, repeated(api.Int, len(nodes))...)
		wantKinds(t, e, []api.Field{{Name: "n", Kind: api.Comp}}, repeated(api.Comp, len(nodes))...)
		for i, n := range nodes {
			if n.Kind != api.NodeVar {
				continue
			}
			nodes[i] = called("q")
			wantWrong(t, e, some, i, api.ErrName)
			nodes[i] = called("t")
			wantReference(t, e, some)
			nodes[i] = n
		}
		for i, n := range nodes {
			switch n.Kind {
			case api.NodeNeg:
				nodes[i].Kind = api.NodeNot
			case api.NodeAdd, api.NodeSub:
				nodes[i].Kind = api.NodeCat
			default:
				continue
			}
			wantWrong(t, e, some, i, api.ErrType)
			nodes[i] = n
		}
	}
	if len(wide) != 64 || len(deep) != 12 {
		t.Errorf("%d and %d nodes", len(wide), len(deep))
	}
}

// maker draws expressions most of whose nodes have types.
type maker struct {
	draw  *rand.Rand
	nodes []api.Node
}

// make lists nodes of a type, or now and then of another one, and answers the last one's number.
func (m *maker) make(kind, depth int) int {
	if m.draw.Intn(60) == 0 {
		kind = 1 + m.draw.Intn(5)
	}
	if depth == 0 || m.draw.Intn(4) == 0 {
		return m.leaf(kind)
	}
	var rows []row
	for _, r := range table {
		if r.is == kind {
			rows = append(rows, r)
		}
	}
	r := rows[m.draw.Intn(len(rows))]
	n := one(r.kind, m.make(r.a, depth-1))
	if r.b != 0 {
		n.B = m.make(r.b, depth-1)
	}
	m.nodes = append(m.nodes, n)
	return len(m.nodes) - 1
}

func (m *maker) leaf(kind int) int {
	values := []api.Value{{Kind: api.Int, Int: 7}, {Kind: api.Real, Real: 1.5}, {}, {Kind: api.Text, Text: "n"}, {Kind: api.Bool, Int: 1}}
	n := leaf(kind)
	switch v := values[kind-1]; {
	case m.draw.Intn(100) == 0:
		n = called("q")
	case m.draw.Intn(2) == 0 && v.Kind != 0:
		n = api.Node{Kind: api.NodeValue, Value: v}
	}
	m.nodes = append(m.nodes, n)
	return len(m.nodes) - 1
}

// drawn are expressions of all sizes, too long and too deep ones among them.
func drawn(seed int64, n int) []api.Expr {
	var l []api.Expr
	for k := range n {
		m := maker{draw: rand.New(rand.NewSource(seed + int64(k)))}
		m.make(1+k%5, 1+k%13)
		l = append(l, api.Expr{Nodes: m.nodes})
	}
	return l
}

// P6.1 to P6.4: many expressions, held against the reference.
func TestDrawn(t *testing.T) {
	counts := map[api.Errno]int{}
	for _, e := range drawn(1, 6000) {
		counts[wantReference(t, e, some)]++
		if t.Failed() {
			t.FailNow()
		}
	}
	for fault, least := range map[api.Errno]int{api.OK: 2000, api.ErrType: 300, api.ErrName: 200, api.ErrNodes: 20} {
		if counts[fault] < least {
			t.Errorf("%d of error %v; want %d", counts[fault], fault, least)
		}
	}
}

// P6.2, P6.4: the type of a node is that of the expression of its nodes; P6.1 likewise: the first wrong one.
func TestParts(t *testing.T) {
	for _, e := range drawn(100000, 1000) {
		at, fault := types.Where(e, some)
		kinds, _ := types.Types(e, some)
		if fault != api.OK && fault != api.ErrType && fault != api.ErrName {
			continue
		}
		for i := range e.Nodes {
			sub, _ := expr.Sub(e, i)
			kind, other := types.Of(sub, some)
			switch {
			case fault == api.OK && (other != api.OK || kind != kinds[i]), i < at && other != api.OK, fault != api.OK && i == at && other != fault:
				t.Fatalf("Of of the node %d of %v: %d, %v; the whole has %v at %d", i, told(e), kind, other, fault, at)
			}
		}
	}
}
