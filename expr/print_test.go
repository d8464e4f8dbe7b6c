package expr_test

import (
	"math"
	"math/rand"
	"slices"
	"strings"
	"testing"

	"chordmail/api"
	"chordmail/expr"
	"chordmail/lex"
)

func wantPrint(t *testing.T, wanted string, nodes ...api.Node) {
	t.Helper()
	text, fault := expr.Print(api.Expr{Nodes: nodes})
	if text != wanted || fault != api.OK {
		t.Errorf("Print of %v: %q, %v; want %q", nodes, text, fault, wanted)
	}
}

// P5.4: the chapter's examples, and texts with brackets that are needed, and that are not.
func TestPrintExamples(t *testing.T) {
	for _, c := range [][2]string{
		{"1 + x * 2", "1 + x * 2"},
		{"( 1+x )*2", "(1 + x) * 2"},
		{"1 - (2 - 3) - 4", "1 - (2 - 3) - 4"},
		{"(a < b) == (c)", "(a < b) == c"},
		{"!!( a)&&-(x)<re(comp(1p0,y))", "!!a && -x < re(comp(1p0, y))"},
		{"a==(b==c)", "a == (b == c)"}, {"(a+b)==(c*d)", "a + b == c * d"}, {"((a<b)&&c)||(d)", "a < b && c || d"},
		{"a&&(b&&c)", "a && (b && c)"}, {"(a&&b)&&c", "a && b && c"}, {"a||(b&&c)", "a || b && c"}, {"(a||b)&&c", "(a || b) && c"}, {"a&&(b||c)", "a && (b || c)"},
		{"(a+b)+c", "a + b + c"}, {"a+(b+c)", "a + (b + c)"}, {"a-(b+c)", "a - (b + c)"}, {"(a*b)/c", "a * b / c"}, {"a*(b/c)", "a * (b / c)"}, {"a%(b*c)", "a % (b * c)"}, {"a*(b+c)", "a * (b + c)"}, {"(a*b)+c", "a * b + c"}, {"a-(b*c)", "a - b * c"},
		{"-(-a)", "--a"}, {"!(!a)", "!!a"}, {"-(!a)", "-!a"}, {"!(-(a))", "!-a"}, {"-(a+b)", "-(a + b)"}, {"-(a*b)", "-(a * b)"}, {"(-a)*b", "-a * b"}, {"a*(-b)", "a * -b"}, {"a-(-b)", "a - -b"}, {"!(a<b)", "!(a < b)"}, {"(!a)<b", "!a < b"}, {"-(re(a))", "-re(a)"},
		{"re(a+b)", "re(a + b)"}, {"re((a||b))", "re(a || b)"}, {"at((a||b),(c<d))", "at(a || b, c < d)"}, {"cat(a,(cat(b,c)))", "cat(a, cat(b, c))"}, {"at(x,0)", "at(x, 0)"}, {"comp(-a,-(b))", "comp(-a, -b)"}, {"(re(a))*(len(b))", "re(a) * len(b)"},
	} {
		e := parsed(t, c[0])
		wantPrint(t, c[1], e.Nodes...)
		if text := referencePrint(treeOf(e.Nodes)); text != c[1] {
			t.Errorf("the reference of %q: %q; want %q", c[0], text, c[1])
		}
	}
}

// P5.4: each kind's text, with its blanks; values by value.Print.
func TestPrintKinds(t *testing.T) {
	a, b := called("a"), called("b")
	for kind, s := range operators {
		wantPrint(t, "a "+s+" b", a, b, two(kind, 0, 1))
	}
	for kind, s := range signs {
		wantPrint(t, s+"a", a, one(kind, 0))
	}
	for kind, s := range words {
		if kind == api.NodeComp || kind == api.NodeAt || kind == api.NodeCat {
			wantPrint(t, s+"(a, b)", a, b, two(kind, 0, 1))
		} else {
			wantPrint(t, s+"(a)", a, one(kind, 0))
		}
	}
	wantPrint(t, "0", whole(0))
	wantPrint(t, "9223372036854775807", whole(math.MaxInt64))
	wantPrint(t, "0p0", scaled(0))
	wantPrint(t, "3602879701896397p-55", scaled(0.1))
	wantPrint(t, "1p-1074", scaled(math.SmallestNonzeroFloat64))
	wantPrint(t, "9007199254740991p971", scaled(math.MaxFloat64))
	wantPrint(t, `""`, said(""))
	wantPrint(t, `"a\"\\\x00\xff"`, said("a\"\\\x00\xff"))
	wantPrint(t, "true", truth(true))
	wantPrint(t, "false", truth(false))
	wantPrint(t, "self", called("self"))
}

// treeOf must be given an expression.
func treeOf(nodes []api.Node) *tree {
	n := nodes[len(nodes)-1]
	x := &tree{node: api.Node{Kind: n.Kind, Name: n.Name, Value: n.Value}}
	switch {
	case n.Kind == api.NodeValue || n.Kind == api.NodeVar:
	case operators[n.Kind] != "" || n.Kind == api.NodeComp || n.Kind == api.NodeAt || n.Kind == api.NodeCat:
		x.children = []*tree{treeOf(nodes[:n.A+1]), treeOf(nodes[:n.B+1])}
	default:
		x.children = []*tree{treeOf(nodes[:n.A+1])}
	}
	return x
}

// anyKinds are trees of each kind, over leaves of their own.
func anyKinds() []*tree {
	leaf := func(n api.Node) *tree { return &tree{node: n} }
	l := []*tree{leaf(whole(1)), leaf(scaled(0.5)), leaf(said("-(")), leaf(truth(true)), leaf(called("v"))}
	for kind := api.NodeNeg; kind <= api.NodeStr; kind++ {
		x := &tree{api.Node{Kind: kind}, []*tree{leaf(called("a"))}}
		if operators[kind] != "" || kind == api.NodeComp || kind == api.NodeAt || kind == api.NodeCat {
			x.children = append(x.children, leaf(called("b")))
		}
		l = append(l, x)
	}
	return l
}

// put is a tree of the same kind with a child in one place.
func put(x *tree, place int, child *tree) *tree {
	y := &tree{x.node, slices.Clone(x.children)}
	y.children[place] = child
	return y
}

// nested are all trees with each kind in each place of each other, and once more so in every other place.
func nested() []*tree {
	kinds := anyKinds()
	var pairs []*tree
	for _, x := range kinds {
		for place := range x.children {
			for _, child := range kinds {
				pairs = append(pairs, put(x, place, child))
			}
		}
	}
	all := slices.Concat(kinds, pairs)
	for k, x := range kinds {
		for place := range x.children {
			for i, child := range pairs {
				if (k+i)%29 == 0 || x.node.Kind < api.NodeRe && i%17 == 0 {
					all = append(all, put(x, place, child))
				}
			}
		}
	}
	return all
}

// P5.4, P5.6: every kind in every place of every other: the text with no bracket that could be left out, and it is read as the expression.
func TestPrintNested(t *testing.T) {
	for _, x := range nested() {
		text := referencePrint(x)
		wantPrint(t, text, x.flat()...)
		wantParse(t, text, x.flat()...)
		if t.Failed() {
			t.FailNow()
		}
	}
}

// drawnExprs are expressions that may be, of all sizes.
func drawnExprs(t *testing.T, seed int64, n int) []api.Expr {
	t.Helper()
	draw := rand.New(rand.NewSource(seed))
	var l []api.Expr
	for len(l) < n {
		e, _, fault := expr.Parse([]byte(drawnText(draw, 1+draw.Intn(45))))
		if fault == api.OK {
			l = append(l, e)
		}
	}
	return l
}

// P5.6: of whatever text is taken, the expression may be, and is what is read of its own text, which is printed alike.
func TestThereAndBack(t *testing.T) {
	for _, e := range drawnExprs(t, 2, 600) {
		if fault := expr.May(e); fault != api.OK {
			t.Fatalf("May of %v: %v", e.Nodes, fault)
		}
		text, _ := expr.Print(e)
		wantParse(t, text, e.Nodes...)
		again := parsed(t, text)
		wantPrint(t, text, again.Nodes...)
		wantPrint(t, referencePrint(treeOf(e.Nodes)), e.Nodes...)
		if t.Failed() {
			t.FailNow()
		}
	}
}

// P5.6: a text may be longer than what is read.
func TestPrintLong(t *testing.T) {
	quoted := `"` + strings.Repeat(`\x00`, 256) + `"`
	nodes := []api.Node{said(strings.Repeat("\x00", 256))}
	for len(nodes) < 63 {
		half := slices.Clone(nodes)
		for _, n := range half {
			if n.Kind == api.NodeCat {
				n.A, n.B = n.A+len(half), n.B+len(half)
			}
			nodes = append(nodes, n)
		}
		nodes = append(nodes, two(api.NodeCat, len(half)-1, 2*len(half)-1))
	}
	text, fault := expr.Print(api.Expr{Nodes: nodes})
	if fault != api.OK || strings.Count(text, quoted) != 32 || len(text) != 32*1026+31*len("cat(, )") {
		t.Errorf("Print: %d bytes, %v", len(text), fault)
	}
	wantFault(t, text, 0, api.ErrLong)
}

// pairs are the places of a text's brackets, but words' own.
func pairs(t *testing.T, text string) [][2]int {
	t.Helper()
	type open struct {
		at  int
		own bool
	}
	var all [][2]int
	var opened []open
	wasWord := false
	for _, x := range tokensOf(t, text) {
		switch x.Text {
		case "(":
			opened = append(opened, open{x.At, wasWord})
		case ")":
			last := opened[len(opened)-1]
			opened = opened[:len(opened)-1]
			if !last.own {
				all = append(all, [2]int{last.at, x.At})
			}
		}
		wasWord = x.Kind == lex.Name && reservedPattern.MatchString(x.Text)
	}
	return all
}

// P5.7: each pair of brackets taken away leaves no text, or that of another expression.
func TestNoNeedlessBracket(t *testing.T) {
	tried := 0
	check := func(e api.Expr) {
		t.Helper()
		text, _ := expr.Print(e)
		for _, p := range pairs(t, text) {
			tried++
			less := text[:p[0]] + text[p[0]+1:p[1]] + text[p[1]+1:]
			if other, _, fault := expr.Parse([]byte(less)); fault == api.OK && same(other.Nodes, e.Nodes) {
				t.Fatalf("%q is the expression of %q", less, text)
			}
		}
	}
	for _, x := range nested() {
		check(api.Expr{Nodes: x.flat()})
	}
	for _, e := range drawnExprs(t, 3, 2000) {
		check(e)
	}
	if tried < 1000 {
		t.Errorf("just %d pairs", tried)
	}
}

// P5.8: the texts of a node's Subs, put together in brackets, are read as the node's Sub.
func TestParts(t *testing.T) {
	text := func(e api.Expr, node int) string {
		sub, fault := expr.Sub(e, node)
		s, other := expr.Print(sub)
		if fault != api.OK || other != api.OK {
			t.Fatalf("Sub of %v, %d: %v, %v", e.Nodes, node, fault, other)
		}
		return bracketed(s)
	}
	for _, e := range drawnExprs(t, 4, 1000) {
		for i, n := range e.Nodes {
			x := treeOf(e.Nodes[:i+1])
			if len(x.children) == 0 {
				continue
			}
			children := []string{text(e, n.A)}
			if len(x.children) == 2 {
				children = append(children, text(e, n.B))
			}
			s := together(n, children)
			if words[n.Kind] != "" {
				s = words[n.Kind] + bracketed(strings.Join(children, ","))
			}
			sub, _ := expr.Sub(e, i)
			wantParse(t, s, sub.Nodes...)
		}
		if t.Failed() {
			t.FailNow()
		}
	}
}

// P5.5: the chapter's example, and each node of some expressions, and those that there are not.
func TestSub(t *testing.T) {
	e := parsed(t, "1 + x * 2")
	for node, wanted := range [][]api.Node{
		{whole(1)}, {called("x")}, {whole(2)}, {called("x"), whole(2), two(api.NodeMul, 0, 1)},
		{whole(1), called("x"), whole(2), two(api.NodeMul, 1, 2), two(api.NodeAdd, 0, 3)},
	} {
		if sub, fault := expr.Sub(e, node); fault != api.OK || !same(sub.Nodes, wanted) {
			t.Errorf("Sub of the node %d: %v, %v; want %v", node, sub.Nodes, fault, wanted)
		}
	}
	for _, e := range drawnExprs(t, 5, 500) {
		for node := range e.Nodes {
			wanted := treeOf(e.Nodes[:node+1]).flat()
			if sub, fault := expr.Sub(e, node); fault != api.OK || !same(sub.Nodes, wanted) {
				t.Fatalf("Sub of %v, %d: %v, %v; want %v", e.Nodes, node, sub.Nodes, fault, wanted)
			}
		}
		for _, node := range []int{-1, len(e.Nodes), len(e.Nodes) + 1, math.MinInt, math.MaxInt} {
			if sub, fault := expr.Sub(e, node); fault != api.ErrArg || len(sub.Nodes) != 0 {
				t.Fatalf("Sub of %v, %d: %v, %v", e.Nodes, node, sub.Nodes, fault)
			}
		}
	}
}

// P5.5: each name once, as they first stand.
func TestVars(t *testing.T) {
	for _, c := range []struct {
		text  string
		names []string
	}{
		{"b + a * b", []string{"b", "a"}}, {"1 + 1p1", nil}, {"x", []string{"x"}}, {"-x < x", []string{"x"}},
		{"self + n * comp(z, a) - at(n, self) + A + a", []string{"self", "n", "z", "a", "A"}},
		{"(c || (b || a)) && (a || (b || c))", []string{"c", "b", "a"}}, {`"a" + re(b) == true`, []string{"b"}},
		{"a1 + a + a11 + a1 + a", []string{"a1", "a", "a11"}},
	} {
		if names := expr.Vars(parsed(t, c.text)); !slices.Equal(names, c.names) {
			t.Errorf("Vars of %q: %v; want %v", c.text, names, c.names)
		}
	}
	for _, e := range drawnExprs(t, 6, 500) {
		var wanted []string
		for _, n := range e.Nodes {
			if n.Kind == api.NodeVar && !slices.Contains(wanted, n.Name) {
				wanted = append(wanted, n.Name)
			}
		}
		if names := expr.Vars(e); !slices.Equal(names, wanted) {
			t.Fatalf("Vars of %v: %v; want %v", e.Nodes, names, wanted)
		}
	}
	for _, nodes := range [][]api.Node{nil, {called("a"), called("b")}, {called("a"), one(api.NodeNeg, 1)}, signed(12), signed(64), {called("a"), called("re"), two(api.NodeAdd, 0, 1)}} {
		if names := expr.Vars(api.Expr{Nodes: nodes}); len(names) != 0 {
			t.Errorf("Vars of %v: %v", nodes, names)
		}
	}
}
