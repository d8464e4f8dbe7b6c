package types_test

import (
	"math"
	"slices"
	"strings"
	"testing"

	"chordmail/api"
	"chordmail/expr"
	"chordmail/types"
)

// some has a variable of each type.
var some = []api.Field{{Name: "n", Kind: api.Int}, {Name: "x", Kind: api.Real}, {Name: "z", Kind: api.Comp}, {Name: "t", Kind: api.Text}, {Name: "b", Kind: api.Bool}}

// asked are the kinds that Is is asked for: each type, and numbers that are none.
var asked = []int{api.Int, api.Real, api.Comp, api.Text, api.Bool, 0, -1, 6, 7, 1 << 32, 1<<32 + 1, math.MinInt, math.MaxInt}

func whole(n int64) api.Node {
	return api.Node{Kind: api.NodeValue, Value: api.Value{Kind: api.Int, Int: n}}
}

func called(name string) api.Node { return api.Node{Kind: api.NodeVar, Name: name} }

func one(kind, a int) api.Node { return api.Node{Kind: kind, A: a} }

func two(kind, a, b int) api.Node { return api.Node{Kind: kind, A: a, B: b} }

// parsed must be given an expression's text.
func parsed(t *testing.T, text string) api.Expr {
	t.Helper()
	e, at, fault := expr.Parse([]byte(text))
	if fault != api.OK {
		t.Fatalf("Parse of %.60q: %d, %v", text, at, fault)
	}
	return e
}

// told is an expression's text, or its first nodes.
func told(e api.Expr) any {
	if text, fault := expr.Print(e); fault == api.OK {
		return text
	}
	return e.Nodes[:min(len(e.Nodes), 9)]
}

// wantKinds asks all four calls of an expression whose nodes have types.
func wantKinds(t *testing.T, e api.Expr, vars []api.Field, wanted ...int) {
	t.Helper()
	last := wanted[len(wanted)-1]
	if at, fault := types.Where(e, vars); at != 0 || fault != api.OK {
		t.Errorf("Where of %v over %v: %d, %v", told(e), vars, at, fault)
	}
	if kind, fault := types.Of(e, vars); kind != last || fault != api.OK {
		t.Errorf("Of of %v over %v: %d, %v; want %d", told(e), vars, kind, fault, last)
	}
	if l, fault := types.Types(e, vars); !slices.Equal(l, wanted) || fault != api.OK {
		t.Errorf("Types of %v over %v: %v, %v; want %v", told(e), vars, l, fault, wanted)
	}
	for _, kind := range asked {
		expected := api.ErrType
		if kind == last {
			expected = api.OK
		}
		if fault := types.Is(e, vars, kind); fault != expected {
			t.Errorf("Is of %v over %v, %d: %v; want %v", told(e), vars, kind, fault, expected)
		}
	}
}

// wantWrong asks all four calls of one that is wrong at a node.
func wantWrong(t *testing.T, e api.Expr, vars []api.Field, place int, wanted api.Errno) {
	t.Helper()
	if at, fault := types.Where(e, vars); at != place || fault != wanted {
		t.Errorf("Where of %v over %v: %d, %v; want %d, %v", told(e), vars, at, fault, place, wanted)
	}
	if kind, fault := types.Of(e, vars); kind != 0 || fault != wanted {
		t.Errorf("Of of %v over %v: %d, %v; want %v", told(e), vars, kind, fault, wanted)
	}
	if l, fault := types.Types(e, vars); len(l) != 0 || fault != wanted {
		t.Errorf("Types of %v over %v: %v, %v; want %v", told(e), vars, l, fault, wanted)
	}
	for _, kind := range asked {
		if fault := types.Is(e, vars, kind); fault != wanted {
			t.Errorf("Is of %v over %v, %d: %v; want %v", told(e), vars, kind, fault, wanted)
		}
	}
}

// wantReference holds all four calls against the reference, and answers its error.
func wantReference(t *testing.T, e api.Expr, vars []api.Field) api.Errno {
	t.Helper()
	kinds, at, fault := reference(e, vars)
	if fault == api.OK {
		wantKinds(t, e, vars, kinds...)
	} else {
		wantWrong(t, e, vars, at, fault)
	}
	return fault
}

// P6.1 to P6.4: the chapter's examples; its variables have no b.
func TestExamples(t *testing.T) {
	vars := some[:4]
	for text, kind := range map[string]int{"n + 1 < len(t)": api.Bool, "z * z == comp(x, 1p0)": api.Bool} {
		if own, fault := types.Of(parsed(t, text), vars); own != kind || fault != api.OK {
			t.Errorf("Of of %q: %d, %v", text, own, fault)
		}
	}
	for text, wanted := range map[string]api.Errno{"n + x": api.ErrType, "q": api.ErrName, "q + x": api.ErrName} {
		if own, fault := types.Of(parsed(t, text), vars); own != 0 || fault != wanted {
			t.Errorf("Of of %q: %d, %v", text, own, fault)
		}
	}
	if at, fault := types.Where(parsed(t, "x + (n + x)"), vars); at != 3 || fault != api.ErrType {
		t.Errorf("Where: %d, %v", at, fault)
	}
	for _, c := range []struct {
		text   string
		kind   int
		wanted api.Errno
	}{{"at(t, n)", api.Int, api.OK}, {"at(t, n)", api.Text, api.ErrType}, {"!true", api.Bool, api.OK}} {
		if fault := types.Is(parsed(t, c.text), vars, c.kind); fault != c.wanted {
			t.Errorf("Is of %q, %d: %v", c.text, c.kind, fault)
		}
	}
	l, fault := types.Types(parsed(t, "n + 1 < len(t)"), vars)
	if fault != api.OK || !slices.Equal(l, []int{api.Int, api.Int, api.Int, api.Text, api.Int, api.Bool}) {
		t.Errorf("Types: %v, %v", l, fault)
	}
	if kind, fault := types.Of(api.Expr{}, vars); kind != 0 || fault != api.ErrExpr {
		t.Errorf("Of of no nodes: %d, %v", kind, fault)
	}
}

// P6.1: which of several errors is told: the first node's, whatever it is.
func TestFirst(t *testing.T) {
	for _, c := range []struct {
		text  string
		place int
		fault api.Errno
	}{
		{"q && n + x < 1", 0, api.ErrName}, {"n + x < 1 && q", 2, api.ErrType}, {"n + x < q", 2, api.ErrType}, {"q < n + x", 0, api.ErrName},
		{"q + x", 0, api.ErrName}, {"x + q", 1, api.ErrName}, {"q + p", 0, api.ErrName}, {"p + q", 0, api.ErrName}, {"q + q", 0, api.ErrName}, {"n + q + x", 1, api.ErrName}, {"n + x + q", 2, api.ErrType}, {"x + (n + q)", 2, api.ErrName},
		{"(n + x) * (n + x)", 2, api.ErrType}, {"(n + n) * (n + x)", 5, api.ErrType}, {"(n + x) * (q + q)", 2, api.ErrType}, {"(n + q) * (n + x)", 1, api.ErrName}, {"(n + n) * (q + x)", 3, api.ErrName}, {"(n + n) * (x + x)", 6, api.ErrType},
		{"-q", 0, api.ErrName}, {"-t", 1, api.ErrType}, {"!!-b", 1, api.ErrType}, {"-!-n", 2, api.ErrType}, {"!-!b", 2, api.ErrType},
		{"at(q, t)", 0, api.ErrName}, {"at(n, q)", 1, api.ErrName}, {"at(n, t)", 2, api.ErrType}, {"at(len(n), q)", 1, api.ErrType}, {"comp(n, q)", 1, api.ErrName}, {"cat(str(t), str(q))", 1, api.ErrType},
		{"self + n", 0, api.ErrName}, {"n == self", 1, api.ErrName}, {"N + 1", 0, api.ErrName}, {"nn", 0, api.ErrName}, {"n_", 0, api.ErrName}, {"n1", 0, api.ErrName},
	} {
		wantWrong(t, parsed(t, c.text), some, c.place, c.fault)
	}
}

// P6.1: a part that reckoning would not come to must have its type, too.
func TestNotNeeded(t *testing.T) {
	for _, c := range []struct {
		text  string
		place int
		fault api.Errno
	}{
		{"false && n", 2, api.ErrType}, {"true || n", 2, api.ErrType}, {"n && false", 2, api.ErrType}, {"false && n + x == n", 3, api.ErrType}, {"true || !n", 2, api.ErrType}, {"true || q", 1, api.ErrName}, {"false && -b", 2, api.ErrType},
		{"true || (b || x)", 3, api.ErrType}, {"true || false && t", 3, api.ErrType}, {"false && (true || 1)", 3, api.ErrType}, {"1 == 2 && 1 == t", 5, api.ErrType},
		{"n == x", 2, api.ErrType}, {"1 < 1p0", 2, api.ErrType}, {`1 != "1"`, 2, api.ErrType}, {"z < z", 2, api.ErrType}, {"true < false", 2, api.ErrType}, {"(n + x) == (n + x)", 2, api.ErrType},
		{"n % n % 0p0", 4, api.ErrType}, {"1 / 0 + x", 4, api.ErrType}, {`at("", 0 - 1) == x`, 6, api.ErrType},
	} {
		wantWrong(t, parsed(t, c.text), some, c.place, c.fault)
	}
	// What reckoning refuses has its type all the same.
	for text, kind := range map[string]int{"1 / 0": api.Int, "1 % 0": api.Int, `at("", 9)`: api.Int, "9223372036854775807 + 1": api.Int, "0p0 / 0p0": api.Real, `true || 1 / 0 > 0`: api.Bool} {
		if own, fault := types.Of(parsed(t, text), nil); own != kind || fault != api.OK {
			t.Errorf("Of of %q: %d, %v", text, own, fault)
		}
	}
}

// signed is a variable with so many signs ahead of it.
func signed(name string, n int) []api.Node {
	nodes := []api.Node{called(name)}
	for k := range n {
		nodes = append(nodes, one(api.NodeNeg, k))
	}
	return nodes
}

// P6.1: May's errors, and 0, ahead of all others, wherever else something is wrong.
func TestMayFirst(t *testing.T) {
	n, q := called("n"), called("q")
	x, text := called("x"), called("t")
	for _, l := range [][]api.Node{
		nil, {}, {n, n}, {q, q}, {q, n, x}, {n, x, two(api.NodeAdd, 0, 1), q}, {q, n, two(api.NodeAdd, 1, 0)}, {n, text, two(api.NodeAdd, 0, 0)}, {one(api.NodeNeg, 0)}, {two(api.NodeAdd, 0, 0)},
		{n, one(api.NodeNeg, 1)}, {n, one(api.NodeNeg, 2)}, {q, one(api.NodeNeg, 1)}, {n, one(api.NodeNeg, -1)}, {q, one(api.NodeNeg, math.MaxInt)}, {n, one(api.NodeNeg, math.MinInt)}, {one(api.NodeNeg, 1), n},
		{n, x, two(api.NodeAdd, 0, 2)}, {n, x, two(api.NodeAdd, 2, 1)}, {n, n, two(api.NodeAdd, 0, 3)}, {q, n, two(api.NodeAdd, -1, 1)}, {n, n, two(api.NodeAdd, 0, 64)}, {n, n, two(api.NodeAdd, 64, 1)},
		{called("")}, {called("true")}, {called("re")}, {called("1")}, {called("n ")}, {called(strings.Repeat("n", 33))}, {n, x, two(api.NodeAdd, 0, 1), one(api.NodeNeg, 2), called("len"), two(api.NodeAdd, 3, 4)},
		{{}}, {{Kind: 27}}, {{Kind: -1}}, {{Kind: math.MaxInt}}, {n, {Kind: 27}}, {q, n, two(0, 0, 1)}, {{Kind: api.NodeVar, Name: "n", A: 1}}, {n, {Kind: api.NodeNeg, Name: "n"}},
		{{Kind: api.NodeValue}}, {whole(-1)}, {{Kind: api.NodeValue, Value: api.Value{Kind: api.Comp}}}, {{Kind: api.NodeValue, Value: api.Value{Kind: 6}}}, {{Kind: api.NodeValue, Value: api.Value{Kind: api.Bool, Int: 2}}},
		append(signed("q", 12), q), append(signed("t", 62), q),
	} {
		wantWrong(t, api.Expr{Nodes: l}, some, 0, api.ErrExpr)
		wantWrong(t, api.Expr{Nodes: l}, nil, 0, api.ErrExpr)
	}
	for _, name := range []string{"n", "t", "q"} {
		for _, signs := range []int{12, 13, 62, 63} {
			wantWrong(t, api.Expr{Nodes: signed(name, signs)}, some, 0, api.ErrDepth)
		}
		for _, signs := range []int{64, 65, 1000} {
			wantWrong(t, api.Expr{Nodes: signed(name, signs)}, some, 0, api.ErrNodes)
		}
	}
	for _, l := range [][]api.Node{make([]api.Node, 65), make([]api.Node, 1000), append(signed("q", 63), q)} {
		wantWrong(t, api.Expr{Nodes: l}, some, 0, api.ErrNodes)
	}
}

// P6.4: the type of each node, in their order.
func TestTypes(t *testing.T) {
	for _, c := range []struct {
		text  string
		kinds []int
	}{
		{"n", []int{api.Int}}, {"b", []int{api.Bool}}, {`"n"`, []int{api.Text}}, {"z", []int{api.Comp}}, {"--x", []int{api.Real, api.Real, api.Real}},
		{"re(z * z)", []int{api.Comp, api.Comp, api.Comp, api.Real}}, {"comp(real(n), x)", []int{api.Int, api.Real, api.Real, api.Comp}},
		{"str(len(cat(t, t)))", []int{api.Text, api.Text, api.Text, api.Int, api.Text}}, {"at(str(n), n) == 48 && !b", []int{api.Int, api.Text, api.Int, api.Int, api.Int, api.Bool, api.Bool, api.Bool, api.Bool}},
		{"(z == z) == (t < t)", []int{api.Comp, api.Comp, api.Bool, api.Text, api.Text, api.Bool, api.Bool}},
		{"size2(comp(x, im(-z))) / 1p0 >= x", []int{api.Real, api.Comp, api.Comp, api.Real, api.Comp, api.Real, api.Real, api.Real, api.Real, api.Bool}},
	} {
		wantKinds(t, parsed(t, c.text), some, c.kinds...)
	}
}
