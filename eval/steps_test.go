package eval_test

import (
	"slices"
	"strings"
	"testing"

	"chordmail/api"
	"chordmail/eval"
	"chordmail/expr"
	"chordmail/types"
)

func wantSteps(t *testing.T, text string, binds []api.Bind, wanted ...eval.Step) {
	t.Helper()
	e := parsed(t, text)
	if l, fault := eval.Steps(e, binds); !alikeSteps(l, wanted) || fault != api.OK {
		complain(t, "Steps of %q: %v, %v; want %v", text, l, fault, wanted)
	}
	hold(t, e, binds)
}

func came(node int, v api.Value) eval.Step { return eval.Step{Node: node, Value: v} }

func failed(node int, fault api.Errno) eval.Step { return eval.Step{Node: node, Err: fault} }

// P7.4: the nodes that are looked at, what each comes to, and the error that ends all.
func TestSteps(t *testing.T) {
	yes, no := truth(true), truth(false)
	wantSteps(t, "n", some(), came(0, whole(7)))
	wantSteps(t, `"n"`, some(), came(0, said("n")))
	wantSteps(t, "n + x / x", append([]api.Bind{bind("x", whole(2))}, some()...), came(0, whole(7)), came(1, whole(2)), came(2, whole(2)), came(3, whole(1)), came(4, whole(8)))
	wantSteps(t, "n + 1 / 0", some(), came(0, whole(7)), came(1, whole(1)), came(2, whole(0)), failed(3, api.ErrZero))
	wantSteps(t, "1 / 0 + n", some(), came(0, whole(1)), came(1, whole(0)), failed(2, api.ErrZero))
	wantSteps(t, "at(t, n) == 1", some(), came(0, said("ab")), came(1, whole(7)), failed(2, api.ErrPlace))
	wantSteps(t, "-(-9223372036854775807 - 1)", nil, came(0, whole(greatest)), came(1, whole(-greatest)), came(2, whole(1)), came(3, whole(m)), failed(4, api.ErrOver))
	wantSteps(t, "-z", some(), came(0, pair(3, 4)), came(1, pair(-3, -4)))
	wantSteps(t, "size2(comp(x, 1p1)) < x", some(), came(0, scaled(1.5)), came(1, scaled(2)), came(2, pair(1.5, 2)), came(3, scaled(6.25)), came(4, scaled(1.5)), came(5, no))

	wantSteps(t, "b && !b", some(), came(0, yes), came(1, yes), came(2, no), came(3, no))
	wantSteps(t, "b || !b", some(), came(0, yes), came(3, yes))
	wantSteps(t, "!b || !!b", some(), came(0, yes), came(1, no), came(2, yes), came(3, no), came(4, yes), came(5, yes))
	wantSteps(t, "!b && 1 / 0 == 1", some(), came(0, yes), came(1, no), came(7, no))
	wantSteps(t, "b && 1 / 0 == 1", some(), came(0, yes), came(1, whole(1)), came(2, whole(0)), failed(3, api.ErrZero))
	wantSteps(t, "1 / 0 == 1 || b", some(), came(0, whole(1)), came(1, whole(0)), failed(2, api.ErrZero))
}

// P7.4, P7.5: && and || one within the other, on either side.
func TestStepsNested(t *testing.T) {
	yes, no := truth(true), truth(false)
	wantSteps(t, "false && true && true", nil, came(0, no), came(2, no), came(4, no))
	wantSteps(t, "false && (true && true)", nil, came(0, no), came(4, no))
	wantSteps(t, "true && (false && true)", nil, came(0, yes), came(1, no), came(3, no), came(4, no))
	wantSteps(t, "false && true || true", nil, came(0, no), came(2, no), came(3, yes), came(4, yes))
	wantSteps(t, "true || true && true", nil, came(0, yes), came(4, yes))
	wantSteps(t, "(true || false) && (true || false)", nil, came(0, yes), came(2, yes), came(3, yes), came(5, yes), came(6, yes))
	wantSteps(t, "(false || false) && (true || false)", nil, came(0, no), came(1, no), came(2, no), came(6, no))
	wantSteps(t, "!(false && true) == (true || false)", nil, came(0, no), came(2, no), came(3, yes), came(4, yes), came(6, yes), came(7, yes))
	wantSteps(t, "true || 1 / 0 == 1 || 1 / 0 == 2", nil, came(0, yes), came(6, yes), came(12, yes))
	wantSteps(t, "false || (true || 1 / 0 == 1) && at(\"\", 0) == 1", nil, came(0, no), came(1, yes), came(7, yes), came(8, said("")), came(9, whole(0)), failed(10, api.ErrPlace))
}

// P7.4: an error of Steps' own stands beside no step.
func TestStepsWrong(t *testing.T) {
	for text, wanted := range map[string]api.Errno{"q": api.ErrName, "n + x": api.ErrType, "1 / 0 + q": api.ErrName, "true || q": api.ErrName, "false && n": api.ErrType} {
		if l, fault := eval.Steps(parsed(t, text), some()); len(l) != 0 || fault != wanted {
			complain(t, "Steps of %q: %v, %v; want %v", text, l, fault, wanted)
		}
	}
	for _, e := range noExpressions() {
		if l, fault := eval.Steps(e, some()); len(l) != 0 || fault != expr.May(e) {
			complain(t, "Steps of %v: %v, %v", told(e), l, fault)
		}
	}
}

// sums are 2n-1 nodes: n leaves, which an operator takes together by pairs.
func sums(kind, n int, leaf api.Node) []api.Node {
	if n == 1 {
		return []api.Node{leaf}
	}
	left := sums(kind, n-n/2, leaf)
	all := left
	for _, x := range sums(kind, n/2, leaf) {
		if x.Kind == kind {
			x.A, x.B = x.A+len(left), x.B+len(left)
		}
		all = append(all, x)
	}
	return append(all, two(kind, len(left)-1, len(all)-1))
}

// P7.1 to P7.5: expressions of 64 nodes, and ones of a depth of 12.
func TestGreatest(t *testing.T) {
	wide := api.Expr{Nodes: append(sums(api.NodeAdd, 32, called("n")), one(api.NodeNeg, 62))}
	every := api.Expr{Nodes: append(sums(api.NodeAnd, 32, called("b")), one(api.NodeNot, 62))}
	if len(wide.Nodes) != 64 || expr.May(wide) != api.OK {
		t.Fatalf("%d nodes", len(wide.Nodes))
	}
	for _, c := range []struct {
		e     api.Expr
		v     api.Value
		is    api.Value
		fault api.Errno
		steps int
	}{
		{wide, whole(3), whole(-96), 0, 64}, {wide, scaled(0.5), scaled(-16), 0, 64}, {wide, pair(1, -1), pair(-32, 32), 0, 64},
		{wide, whole(1 << 58), api.Value{}, api.ErrOver, 63}, {wide, whole(-1 << 58), api.Value{}, api.ErrOver, 64}, {wide, whole(1 << 62), api.Value{}, api.ErrOver, 3}, {wide, whole(m), api.Value{}, api.ErrOver, 3},
		{every, truth(true), truth(false), 0, 64}, {every, truth(false), truth(true), 0, 7},
		{parsed(t, strings.Repeat("-", 11)+"n"), whole(5), whole(-5), 0, 12}, {parsed(t, strings.Repeat("-", 10)+"n"), scaled(minus0), scaled(minus0), 0, 11}, {parsed(t, strings.Repeat("!", 11)+"b"), truth(true), truth(false), 0, 12},
		{parsed(t, strings.Repeat("(n - ", 10)+"-n"+strings.Repeat(")", 10)), whole(9), whole(-9), 0, 22}, {parsed(t, strings.Repeat("(b || ", 11)+"b"+strings.Repeat(")", 11)), truth(true), truth(true), 0, 2}, {parsed(t, strings.Repeat("(b || ", 11)+"b"+strings.Repeat(")", 11)), truth(false), truth(false), 0, 23},
		{parsed(t, "b"+strings.Repeat(" && b", 11)), truth(false), truth(false), 0, 12}, {parsed(t, "b"+strings.Repeat(" && b", 11)), truth(true), truth(true), 0, 23},
	} {
		binds := []api.Bind{bind("n", c.v), bind("b", c.v)}
		v, fault := hold(t, c.e, binds)
		l, _ := eval.Steps(c.e, binds)
		if !alike(v, c.is) || fault != c.fault || len(l) != c.steps {
			complain(t, "%v over %v: %v, %v, %d steps; want %v, %v, %d", told(c.e), c.v, v, fault, len(l), c.is, c.fault, c.steps)
		}
	}
}

// leftOut are the nodes that no step needs to tell of: those of a right side whose left side decides.
func leftOut(nodes []api.Node, l []eval.Step) []int {
	var out []int
	for _, s := range l {
		for _, n := range nodes {
			if n.A != s.Node || n.Kind != api.NodeAnd && n.Kind != api.NodeOr {
				continue
			}
			if s.Err == api.OK && s.Value == truth(n.Kind == api.NodeOr) {
				for i := firstOf(nodes, n.B); i <= n.B; i++ {
					out = append(out, i)
				}
			}
		}
	}
	return out
}

// P7.5: Eval by Steps, and which nodes are among the steps.
func TestEvalBySteps(t *testing.T) {
	out, ended := 0, 0
	for _, c := range drawn(7000, 4000) {
		l, fault := eval.Steps(c.e, c.binds)
		if fault != api.OK {
			continue
		}
		v, wrong := eval.Eval(c.e, c.binds)
		last := l[len(l)-1]
		if wrong != last.Err || !alike(v, last.Value) || wrong == api.OK && last.Node != len(c.e.Nodes)-1 {
			t.Fatalf("Eval of %v over %v: %v, %v; the last step is %v", told(c.e), c.binds, v, wrong, last)
		}
		missing := leftOut(c.e.Nodes, l)
		out += len(missing)
		next := 0
		for i, s := range l {
			for ; next != s.Node && slices.Contains(missing, next); next++ {
			}
			if next != s.Node || slices.Contains(missing, s.Node) || s.Err != api.OK && (i < len(l)-1 || !alike(s.Value, api.Value{})) {
				t.Fatalf("Steps of %v over %v: %v; left out may be %v", told(c.e), c.binds, l, missing)
			}
			next++
		}
		if wrong != api.OK {
			ended++
		}
	}
	if out < 500 || ended < 300 {
		complain(t, "just %d nodes left out, %d ended by an error", out, ended)
	}
}

// P7.6: what a node comes to is what Eval answers of its Sub.
func TestParts(t *testing.T) {
	tried := 0
	for _, c := range drawn(100000, 1200) {
		l, fault := eval.Steps(c.e, c.binds)
		if fault != api.OK {
			continue
		}
		for _, s := range l {
			sub, wrong := expr.Sub(c.e, s.Node)
			if wrong != api.OK {
				t.Fatalf("Sub of %v, %d: %v", told(c.e), s.Node, wrong)
			}
			v, fault := eval.Eval(sub, c.binds)
			if !alike(v, s.Value) || fault != s.Err {
				t.Fatalf("Eval of %v over %v: %v, %v; as a part %v", told(sub), c.binds, v, fault, s)
			}
			tried++
		}
		// The nodes that are left out are expressions, too.
		for i := range c.e.Nodes {
			sub, _ := expr.Sub(c.e, i)
			hold(t, sub, c.binds)
		}
		if t.Failed() {
			t.FailNow()
		}
	}
	if tried < 4000 {
		complain(t, "just %d parts", tried)
	}
}

// P7.6: a variable's value in the variable's place.
func TestInPlace(t *testing.T) {
	tried := 0
	for _, c := range drawn(200000, 3000) {
		wanted, fault := eval.Steps(c.e, c.binds)
		if fault != api.OK {
			continue
		}
		all := slices.Clone(c.e.Nodes)
		for i, n := range c.e.Nodes {
			v, has := given(n.Name, c.binds)
			if n.Kind != api.NodeVar || !has || expr.May(api.Expr{Nodes: []api.Node{leaf(v)}}) != api.OK {
				continue
			}
			all[i] = leaf(v)
			single := slices.Clone(c.e.Nodes)
			single[i] = leaf(v)
			if l, fault := eval.Steps(api.Expr{Nodes: single}, c.binds); !alikeSteps(l, wanted) || fault != api.OK {
				t.Fatalf("Steps of %v with the value of node %d over %v: %v, %v; want %v", told(c.e), i, c.binds, l, fault, wanted)
			}
			tried++
		}
		if l, fault := eval.Steps(api.Expr{Nodes: all}, c.binds); !alikeSteps(l, wanted) || fault != api.OK {
			t.Fatalf("Steps of %v with values over %v: %v, %v; want %v", told(c.e), c.binds, l, fault, wanted)
		}
	}
	if tried < 3000 {
		complain(t, "just %d variables", tried)
	}
}

// P7.7: the type of each step's value is that which types tells of its node.
func TestRightTypes(t *testing.T) {
	tried := 0
	for _, c := range drawn(300000, 2000) {
		l, fault := eval.Steps(c.e, c.binds)
		kinds, wrong := types.Types(c.e, fieldsOf(c.e, c.binds))
		if fault != wrong {
			t.Fatalf("Steps of %v: %v; Types %v", told(c.e), fault, wrong)
		}
		for _, s := range l {
			if s.Err == api.OK && s.Value.Kind != kinds[s.Node] {
				t.Fatalf("Steps of %v over %v: %v; want the type %d", told(c.e), c.binds, s, kinds[s.Node])
			}
			tried++
		}
	}
	if tried < 5000 {
		complain(t, "just %d steps", tried)
	}
}
