package expr_test

import (
	"math"
	"slices"
	"strings"
	"testing"

	"chordmail/api"
	"chordmail/expr"
)

// wantMay asks all calls that have May's error.
func wantMay(t *testing.T, wanted api.Errno, nodes ...api.Node) {
	t.Helper()
	e := api.Expr{Nodes: nodes}
	if fault := expr.May(e); fault != wanted {
		t.Errorf("May of %v: %v; want %v", nodes[:min(len(nodes), 9)], fault, wanted)
	}
	text, fault := expr.Print(e)
	if fault != wanted || (text == "") != (wanted != api.OK) {
		t.Errorf("Print of %v: %q, %v; want %v", nodes[:min(len(nodes), 9)], text, fault, wanted)
	}
	for _, node := range []int{-1, 0, len(nodes) - 1, len(nodes)} {
		sub, fault := expr.Sub(e, node)
		expected := wanted
		if wanted == api.OK && (node < 0 || node == len(nodes)) {
			expected = api.ErrArg
		}
		if fault != expected || (len(sub.Nodes) == 0) != (expected != api.OK) {
			t.Errorf("Sub of %v, %d: %v, %v; want %v", nodes[:min(len(nodes), 9)], node, sub.Nodes, fault, expected)
		}
	}
	if names := expr.Vars(e); wanted != api.OK && len(names) != 0 {
		t.Errorf("Vars of %v: %v", nodes[:min(len(nodes), 9)], names)
	}
}

// P5.3: which nodes stand by themselves.
func TestMayLeaves(t *testing.T) {
	least := math.SmallestNonzeroFloat64
	for _, n := range []api.Node{
		whole(0), whole(1), whole(math.MaxInt64), scaled(0), scaled(1), scaled(least), scaled(math.MaxFloat64), scaled(0.1), truth(true), truth(false), said(""), said("a\x00\"\xff"), said(strings.Repeat("a", 256)),
		called("a"), called("Z"), called("a_9Z_"), called("self"), called(strings.Repeat("n", 32)), called("rea"), called("truex"), called("size"),
	} {
		wantMay(t, api.OK, n)
		wantMay(t, api.OK, n, one(api.NodeRe, 0))
	}
	bad := []api.Node{
		whole(-1), whole(math.MinInt64), scaled(math.Copysign(0, -1)), scaled(-least), scaled(-1), scaled(math.Inf(1)), scaled(math.Inf(-1)), scaled(math.NaN()), said(strings.Repeat("a", 257)),
		{Kind: api.NodeValue}, {Kind: api.NodeValue, Value: api.Value{Kind: api.Comp}}, {Kind: api.NodeValue, Value: api.Value{Kind: api.Comp, Comp: 1 + 2i}},
		{Kind: api.NodeValue, Value: api.Value{Kind: 6, Int: 1}}, {Kind: api.NodeValue, Value: api.Value{Kind: -1}}, {Kind: api.NodeValue, Value: api.Value{Kind: api.Bool, Int: 2}}, {Kind: api.NodeValue, Value: api.Value{Kind: api.Bool, Int: -1}},
	}
	for _, s := range []string{"", "_", "1", "a b", " a", "a ", "a-", "a\n", "\xc3\xa4", "a\x00", "a#", strings.Repeat("n", 33), strings.Repeat("n", 100000), "true", "false", "re", "im", "size2", "comp", "real", "len", "at", "cat", "str"} {
		bad = append(bad, called(s))
	}
	for _, n := range bad {
		wantMay(t, api.ErrExpr, n)
		wantMay(t, api.ErrExpr, n, one(api.NodeRe, 0))
		wantMay(t, api.ErrExpr, whole(1), n, two(api.NodeAdd, 0, 1))
		wantMay(t, api.ErrExpr, n, whole(1), two(api.NodeAdd, 0, 1))
	}
}

// allBut are a node's fields that its kind does not name, each filled.
func allBut(n api.Node) []api.Node {
	leaf := n.Kind == api.NodeValue || n.Kind == api.NodeVar
	single := !leaf && operators[n.Kind] == "" && n.Kind != api.NodeComp && n.Kind != api.NodeAt && n.Kind != api.NodeCat
	var all []api.Node
	with := func(fill func(*api.Node)) {
		m := n
		fill(&m)
		all = append(all, m)
	}
	if leaf {
		with(func(m *api.Node) { m.A = 1 })
		with(func(m *api.Node) { m.A = -1 })
	}
	if leaf || single {
		with(func(m *api.Node) { m.B = 1 })
		with(func(m *api.Node) { m.B = math.MinInt })
	}
	if n.Kind != api.NodeVar {
		with(func(m *api.Node) { m.Name = "a" })
		with(func(m *api.Node) { m.Name = "\x00" })
	}
	v := n.Value.Kind
	if n.Kind != api.NodeValue {
		with(func(m *api.Node) { m.Value.Kind = api.Int })
		with(func(m *api.Node) { m.Value.Kind = -1 })
	}
	if v != api.Int && v != api.Bool {
		with(func(m *api.Node) { m.Value.Int = 1 })
	}
	if v != api.Real {
		with(func(m *api.Node) { m.Value.Real = math.SmallestNonzeroFloat64 })
		with(func(m *api.Node) { m.Value.Real = math.NaN() })
	}
	with(func(m *api.Node) { m.Value.Comp = 1 })
	with(func(m *api.Node) { m.Value.Comp = 1i })
	with(func(m *api.Node) { m.Value.Comp = complex(0, math.NaN()) })
	if v != api.Text {
		with(func(m *api.Node) { m.Value.Text = "\x00" })
	}
	return all
}

// P5.3: a field that the kind does not name is filled; -0 in it counts as zero.
func TestMayOtherFields(t *testing.T) {
	minus := math.Copysign(0, -1)
	check := func(n api.Node, ahead ...api.Node) {
		t.Helper()
		wantMay(t, api.OK, append(slices.Clone(ahead), n)...)
		for _, m := range allBut(n) {
			wantMay(t, api.ErrExpr, append(slices.Clone(ahead), m)...)
		}
		m := n
		if m.Value.Kind != api.Real {
			m.Value.Real = minus
		}
		m.Value.Comp = complex(minus, minus)
		filled := append(slices.Clone(ahead), m)
		wantMay(t, api.OK, filled...)
		// What is answered of it has noughts of their own again.
		sub, fault := expr.Sub(api.Expr{Nodes: filled}, len(filled)-1)
		if fault != api.OK || !same(sub.Nodes, append(slices.Clone(ahead), n)) {
			t.Errorf("Sub of %v: %v, %v", filled, sub.Nodes, fault)
		}
	}
	for _, n := range []api.Node{whole(0), whole(7), scaled(0), scaled(1.5), said(""), said("x"), truth(true), truth(false), called("a")} {
		check(n)
	}
	for kind := api.NodeNeg; kind <= api.NodeStr; kind++ {
		if operators[kind] != "" || kind == api.NodeComp || kind == api.NodeAt || kind == api.NodeCat {
			check(two(kind, 0, 1), called("a"), whole(1))
		} else {
			check(one(kind, 0), called("a"))
		}
	}
}

// P5.3: lists that are no expression.
func TestMayLists(t *testing.T) {
	a, b, c := called("a"), called("b"), called("c")
	wantMay(t, api.ErrExpr)
	for _, kind := range []int{0, -1, 27, 28, 1000000, math.MaxInt, math.MinInt} {
		wantMay(t, api.ErrExpr, api.Node{Kind: kind})
		wantMay(t, api.ErrExpr, a, api.Node{Kind: kind})
		wantMay(t, api.ErrExpr, a, b, two(kind, 0, 1))
	}
	for _, child := range []int{-1, 1, 2, math.MaxInt, math.MinInt} {
		wantMay(t, api.ErrExpr, a, one(api.NodeNeg, child))
		wantMay(t, api.ErrExpr, a, one(api.NodeLen, child))
		wantMay(t, api.ErrExpr, a, one(api.NodeNeg, child), one(api.NodeNeg, 1))
		wantMay(t, api.ErrExpr, a, one(api.NodeNeg, 0), one(api.NodeNeg, child+1))
	}
	wantMay(t, api.ErrExpr, one(api.NodeNeg, 0))
	wantMay(t, api.ErrExpr, one(api.NodeNeg, -1))
	wantMay(t, api.ErrExpr, two(api.NodeAdd, 0, 0))
	wantMay(t, api.ErrExpr, two(api.NodeAdd, -2, -1))
	wantMay(t, api.ErrExpr, a, two(api.NodeAdd, 0, 0))
	wantMay(t, api.ErrExpr, a, two(api.NodeAdd, -1, 0))
	wantMay(t, api.ErrExpr, one(api.NodeNeg, 1), a)
	wantMay(t, api.ErrExpr, a, b)
	wantMay(t, api.ErrExpr, a, b, one(api.NodeNeg, 1))
	wantMay(t, api.ErrExpr, a, b, one(api.NodeNeg, 0))
	wantMay(t, api.ErrExpr, a, b, c, two(api.NodeAdd, 1, 2))
	wantMay(t, api.ErrExpr, a, b, c, two(api.NodeAdd, 0, 2))
	wantMay(t, api.ErrExpr, a, b, c, two(api.NodeAdd, 0, 1))
	wantMay(t, api.ErrExpr, a, b, two(api.NodeAdd, 1, 0))
	wantMay(t, api.ErrExpr, a, b, two(api.NodeAdd, 1, 1))
	wantMay(t, api.ErrExpr, a, b, two(api.NodeAdd, 0, 0))
	wantMay(t, api.ErrExpr, a, b, two(api.NodeAdd, 0, 2))
	wantMay(t, api.ErrExpr, a, b, two(api.NodeAdd, 0, 1), c)
	wantMay(t, api.ErrExpr, a, b, two(api.NodeAdd, 0, 1), two(api.NodeAdd, 0, 2))
	wantMay(t, api.ErrExpr, a, b, two(api.NodeAdd, 0, 1), two(api.NodeAdd, 1, 2))
	wantMay(t, api.ErrExpr, a, b, two(api.NodeAdd, 0, 1), two(api.NodeAdd, 2, 2))
	// Two sums whose parts do not stand side by side.
	wantMay(t, api.ErrExpr, a, b, c, a, two(api.NodeAdd, 0, 2), two(api.NodeAdd, 1, 3), two(api.NodeMul, 4, 5))
	wantMay(t, api.ErrExpr, a, b, c, a, two(api.NodeAdd, 0, 1), two(api.NodeAdd, 2, 3), two(api.NodeMul, 4, 5))
	wantMay(t, api.OK, a, b, two(api.NodeAdd, 0, 1), c, a, two(api.NodeAdd, 3, 4), two(api.NodeMul, 2, 5))
	wantMay(t, api.ErrExpr, a, b, two(api.NodeAdd, 0, 1), c, a, two(api.NodeAdd, 3, 4), two(api.NodeMul, 5, 2))
}

// signed is x with so many signs ahead of it.
func signed(n int) []api.Node {
	nodes := []api.Node{called("x")}
	for k := range n {
		nodes = append(nodes, one(api.NodeNeg, k))
	}
	return nodes
}

// P5.3: too many nodes ahead of all; no expression ahead of too great a depth.
func TestMayLimits(t *testing.T) {
	wantMay(t, api.OK, signed(11)...)
	for _, n := range []int{12, 13, 63} {
		wantMay(t, api.ErrDepth, signed(n)...)
		wantMay(t, api.ErrExpr, append(signed(n-1), one(api.NodeNeg, n))...)
		wantMay(t, api.ErrExpr, append(signed(n-1), called("y"))...)
		wantMay(t, api.ErrExpr, append([]api.Node{called("re")}, signed(n)[1:]...)...)
	}
	for _, n := range []int{64, 65, 1000} {
		wantMay(t, api.ErrNodes, signed(n)...)
		wantMay(t, api.ErrNodes, make([]api.Node, n+1)...)
		wantMay(t, api.ErrNodes, append(signed(n), one(api.NodeNeg, -1))...)
	}
	wantMay(t, api.ErrExpr, make([]api.Node, 64)...)
	// The depth is that of the deeper child, on either side.
	left := append(signed(10), called("y"), two(api.NodeAdd, 10, 11))
	wantMay(t, api.OK, left...)
	wantMay(t, api.ErrDepth, append(left, one(api.NodeNot, 12))...)
	right := append([]api.Node{called("y")}, signed(11)...)
	for k := range right[2:] {
		right[k+2].A++
	}
	wantMay(t, api.ErrDepth, append(right, two(api.NodeAdd, 0, 12))...)
	wantMay(t, api.OK, append(right[:12:12], two(api.NodeAdd, 0, 11))...)
}

// P5.3: all lists of up to three nodes of three kinds, and some of four, held against the chapter's words.
func TestMayReference(t *testing.T) {
	var some []api.Node
	for a := -1; a <= 3; a++ {
		for b := -1; b <= 3; b++ {
			some = append(some, two(api.NodeAdd, a, b))
		}
		some = append(some, one(api.NodeNeg, a))
	}
	some = append(some, called("a"))
	good := 0
	var visit func(nodes []api.Node, left int)
	visit = func(nodes []api.Node, left int) {
		wanted := referenceMay(nodes)
		if fault := expr.May(api.Expr{Nodes: nodes}); fault != wanted {
			t.Fatalf("May of %v: %v; want %v", nodes, fault, wanted)
		}
		if wanted == api.OK {
			good++
		}
		if left == 0 {
			return
		}
		for _, n := range some {
			visit(append(nodes, n), left-1)
		}
	}
	visit(nil, 3)
	visit([]api.Node{called("a"), called("b")}, 3)
	visit([]api.Node{called("a"), one(api.NodeNeg, 0)}, 3)
	if good < 10 {
		t.Errorf("just %d expressions", good)
	}
}
