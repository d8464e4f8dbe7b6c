package eval_test

import (
	"fmt"
	"math"
	"slices"
	"strings"
	"testing"

	"chordmail/api"
	"chordmail/eval"
	"chordmail/expr"
	"chordmail/types"
	"chordmail/value"
)

func called(name string) api.Node { return api.Node{Kind: api.NodeVar, Name: name} }

func leaf(v api.Value) api.Node { return api.Node{Kind: api.NodeValue, Value: v} }

func one(kind, a int) api.Node { return api.Node{Kind: kind, A: a} }

func two(kind, a, b int) api.Node { return api.Node{Kind: kind, A: a, B: b} }

func bind(name string, v api.Value) api.Bind { return api.Bind{Name: name, Value: v} }

// some are the chapter's variables, and a bool.
func some() []api.Bind {
	return []api.Bind{bind("n", whole(7)), bind("x", scaled(1.5)), bind("z", pair(3, 4)), bind("t", said("ab")), bind("b", truth(true))}
}

// sides are the variables a and b.
func sides(a, b api.Value) []api.Bind { return []api.Bind{bind("a", a), bind("b", b)} }

// parsed must be given an expression's text.
func parsed(t *testing.T, text string) api.Expr {
	t.Helper()
	e, at, fault := expr.Parse([]byte(text))
	if fault != api.OK {
		t.Fatalf("Parse of %.60q: %d, %v", text, at, fault)
	}
	return e
}

// told is an expression's text, or its first nodes.
func told(e api.Expr) any {
	if text, fault := expr.Print(e); fault == api.OK {
		return text
	}
	return e.Nodes[:min(len(e.Nodes), 9)]
}

// bits are all that a value has: two reals with the same ones are alike in every way.
type bits struct {
	kind         int
	whole        int64
	real, re, im uint64
	text         string
}

func bitsOf(v api.Value) bits {
	return bits{v.Kind, v.Int, math.Float64bits(v.Real), math.Float64bits(real(v.Comp)), math.Float64bits(imag(v.Comp)), v.Text}
}

// alike also tells whether a value is plain, where the other one is.
func alike(v, other api.Value) bool { return bitsOf(v) == bitsOf(other) }

func alikeSteps(a, b []eval.Step) bool {
	return slices.EqualFunc(a, b, func(x, y eval.Step) bool {
		return x.Node == y.Node && alike(x.Value, y.Value) && x.Err == y.Err
	})
}

// complain tells that something is wrong, but not all of what is long.
func complain(t *testing.T, format string, args ...any) {
	t.Helper()
	text := fmt.Sprintf(format, args...)
	if len(text) > 600 {
		text = text[:600] + " .."
	}
	t.Error(text)
}

// hold asks all four calls, holds them against the reference, and answers what Eval did.
func hold(t *testing.T, e api.Expr, binds []api.Bind) (api.Value, api.Errno) {
	t.Helper()
	wanted, wrong := reference(e, binds)
	if l, fault := eval.Steps(e, binds); !alikeSteps(l, wanted) || fault != wrong {
		complain(t, "Steps of %v over %v: %v, %v; want %v, %v", told(e), binds, l, fault, wanted, wrong)
	}
	last := eval.Step{Err: wrong}
	if wrong == api.OK {
		last = wanted[len(wanted)-1]
	}
	v, fault := eval.Eval(e, binds)
	if !alike(v, last.Value) || fault != last.Err {
		complain(t, "Eval of %v over %v: %v, %v; want %v, %v", told(e), binds, v, fault, last.Value, last.Err)
	}
	l, at, stopped := eval.All([]api.Expr{e}, binds)
	if at != 0 || stopped != last.Err || fault == api.OK && (len(l) != 1 || !alike(l[0], last.Value)) || fault != api.OK && len(l) != 0 {
		complain(t, "All of %v over %v: %v, %d, %v; want %v, %v", told(e), binds, l, at, stopped, last.Value, last.Err)
	}
	if holds := eval.Holds(e, binds); holds != (len(e.Nodes) == 0 || last.Err == api.OK && last.Value == truth(true)) {
		complain(t, "Holds of %v over %v: %v; it comes to %v, %v", told(e), binds, holds, last.Value, last.Err)
	}
	wantRight(t, e, binds, v, fault)
	return v, fault
}

// wantRight holds P7.7: what is answered is of the right type, may be, and is plain.
func wantRight(t *testing.T, e api.Expr, binds []api.Bind, v api.Value, fault api.Errno) {
	t.Helper()
	kind, wrong := types.Of(e, fieldsOf(e, binds))
	switch {
	case wrong != api.OK && fault != wrong:
		complain(t, "Eval of %v over %v: %v, types has %v", told(e), binds, fault, wrong)
	case fault != api.OK && !alike(v, api.Value{}):
		complain(t, "Eval of %v over %v: %v beside %v", told(e), binds, v, fault)
	case fault == api.OK && (v.Kind != kind || !value.May(v) || !alike(v, value.Plain(v))):
		complain(t, "Eval of %v over %v: %v is not of type %d, or may not be, or is not plain", told(e), binds, v, kind)
	}
}

// want holds an expression that comes to a value.
func want(t *testing.T, text string, binds []api.Bind, wanted api.Value) {
	t.Helper()
	if v, fault := hold(t, parsed(t, text), binds); !alike(v, wanted) || fault != api.OK {
		complain(t, "Eval of %q over %v: %v, %v; want %v", text, binds, v, fault, wanted)
	}
}

// wantFault holds one that has an error.
func wantFault(t *testing.T, text string, binds []api.Bind, wanted api.Errno) {
	t.Helper()
	if v, fault := hold(t, parsed(t, text), binds); !alike(v, api.Value{}) || fault != wanted {
		complain(t, "Eval of %q over %v: %v, %v; want %v", text, binds, v, fault, wanted)
	}
}

// P7.1 to P7.4: the chapter's examples.
func TestExamples(t *testing.T) {
	want(t, "n / 2 - -n % 4", some(), whole(6))
	wantFault(t, "n / 0", some(), api.ErrZero)
	want(t, "x / 0p0", some(), scaled(infinite))
	wantFault(t, "9223372036854775807 + 1", some(), api.ErrOver)
	want(t, "n > 0 || 1 / 0 == 1", some(), truth(true))
	wantFault(t, "1 / 0 == 1 || n > 0", some(), api.ErrZero)
	want(t, "z * z", some(), pair(-7, 24))
	want(t, "size2(z)", some(), scaled(25))
	want(t, "re(-z) == -im(comp(0p0, 3p0))", some(), truth(true))
	want(t, "at(t, 1) + len(cat(t, str(-n)))", some(), whole(102))
	wantFault(t, "at(t, 2)", some(), api.ErrPlace)
	want(t, `t < "b"`, some(), truth(true))
	wantFault(t, "x + n", some(), api.ErrType)
	wantFault(t, "q", some(), api.ErrName)
	want(t, "0p0 / 0p0 == 0p0 / 0p0", some(), truth(false))
	want(t, "-0p0 == 0p0", some(), truth(true))

	if !eval.Holds(api.Expr{}, some()) || !eval.Holds(parsed(t, "n > 0"), some()) || eval.Holds(parsed(t, "n"), some()) || eval.Holds(parsed(t, "1 / 0 > 0"), some()) {
		t.Error("Holds of the chapter's examples")
	}
	wantAll(t, []string{"n", "1 / 0", "q"}, some(), nil, 1, api.ErrZero)
	wantAll(t, nil, some(), nil, 0, api.OK)
	wantSteps(t, `n > 9 && t == "ab"`, some(), eval.Step{Node: 0, Value: whole(7)}, eval.Step{Node: 1, Value: whole(9)}, eval.Step{Node: 2, Value: truth(false)}, eval.Step{Node: 6, Value: truth(false)})
}

// P7.1: the document's examples of guards.
func TestDocument(t *testing.T) {
	n := func(v int64) []api.Bind { return []api.Bind{bind("n", whole(v)), bind("t", said("x"))} }
	wantFault(t, "1 / n > 0 && true", n(0), api.ErrZero)
	wantFault(t, "9223372036854775807 + n > 0", n(1), api.ErrOver)
	wantFault(t, "at(t, 9) == 0", n(0), api.ErrPlace)
	want(t, "n == 0 || 1 / n > 0", n(0), truth(true))
	want(t, "n == 0 || 1 / n > 0", n(1), truth(true))
	want(t, "n == 0 || 1 / n > 0", n(2), truth(false))
}

// P7.1: the right side of && and || where it is looked at, and where not; the left side always is.
func TestDecided(t *testing.T) {
	yes, no := truth(true), truth(false)
	for _, c := range []struct {
		text  string
		v     api.Value
		fault api.Errno
	}{
		{"false && false", no, 0}, {"false && true", no, 0}, {"true && false", no, 0}, {"true && true", yes, 0},
		{"false || false", no, 0}, {"false || true", yes, 0}, {"true || false", yes, 0}, {"true || true", yes, 0},
		{"n < 0 && 1 / 0 == 1", no, 0}, {"n > 0 || 1 / 0 == 1", yes, 0}, {"n > 0 && 1 / 0 == 1", api.Value{}, api.ErrZero}, {"n < 0 || 1 / 0 == 1", api.Value{}, api.ErrZero},
		{"1 / 0 == 1 && n > 0", api.Value{}, api.ErrZero}, {"1 / 0 == 1 || n > 0", api.Value{}, api.ErrZero}, {"1 / 0 == 1 && false", api.Value{}, api.ErrZero}, {"1 / 0 == 1 || true", api.Value{}, api.ErrZero},
		{"false && 1 / 0 == 1 || true", yes, 0}, {"false && 1 / 0 == 1 || at(t, 9) == 1", api.Value{}, api.ErrPlace}, {"true || 1 / 0 == 1 && at(t, 9) == 1", yes, 0}, {"(true || 1 / 0 == 1) && at(t, 9) == 1", api.Value{}, api.ErrPlace},
		{"false && (1 / 0 == 1 || at(t, 9) == 1)", no, 0}, {"true && (false || at(t, 9) == 1)", api.Value{}, api.ErrPlace}, {"true && (true || at(t, 9) == 1)", yes, 0},
		{"!(n < 0 && 1 / 0 == 1)", yes, 0}, {"(n < 0 && 1 / 0 == 1) == (n > 0 || 1 / 0 == 1)", no, 0}, {"(n < 0 && 1 / 0 == 1) == (n < 0 || 1 / 0 == 1)", api.Value{}, api.ErrZero},
		{"false && false && 1 / 0 == 1", no, 0}, {"false || false || 1 / 0 == 1", api.Value{}, api.ErrZero}, {"true || true || 1 / 0 == 1", yes, 0}, {"b && !b || b", yes, 0}, {"!b || !b && 1 / 0 == 1", no, 0},
		{"!true", no, 0}, {"!false", yes, 0}, {"!!b", yes, 0},
	} {
		if c.fault == api.OK {
			want(t, c.text, some(), c.v)
		} else {
			wantFault(t, c.text, some(), c.fault)
		}
	}
}

// P7.1: of several errors that of the first node looked at is told: one in A ahead of one in B, one of a child ahead of its parent's own.
func TestFirst(t *testing.T) {
	long := []api.Bind{bind("t", said(strings.Repeat("x", 129))), bind("n", whole(greatest))}
	for text, fault := range map[string]api.Errno{
		"1 / 0 + (n + 1)": api.ErrZero, "n + 1 + 1 / 0": api.ErrOver, "n + 1 - at(t, 200)": api.ErrOver, "at(t, 200) - (n + 1)": api.ErrPlace, "(1 + 1 / 0) * (n + n)": api.ErrZero, "(n + n) * (1 + 1 / 0)": api.ErrOver,
		"at(cat(t, t), 1 / 0)": api.ErrText, "at(cat(t, t), 999)": api.ErrText, "at(t, 1 / 0)": api.ErrZero, "at(str(n + 1), 1 / 0)": api.ErrOver, "at(str(1 / 0), n + 1)": api.ErrZero, "at(t, n + 1)": api.ErrOver,
		"cat(cat(t, t), str(1 / 0))": api.ErrText, "cat(str(1 / 0), cat(t, t))": api.ErrZero, "cat(str(n * 2), str(1 % 0))": api.ErrOver, "cat(t, cat(t, str(-n - 2)))": api.ErrOver, "cat(t, cat(t, str(-n - 1)))": api.ErrText,
		"comp(real(1 / 0), real(n + 1))": api.ErrZero, "comp(real(n + 1), real(1 / 0))": api.ErrOver, "comp(1p0, real(1 / 0))": api.ErrZero, "comp(real(at(t, -1)), real(1 / 0))": api.ErrPlace,
		"1 / 0 == n + 1": api.ErrZero, "n + 1 < 1 / 0": api.ErrOver, "1 / (1 / 0)": api.ErrZero, "(n + 1) / 0": api.ErrOver, "1 % 0 / 0": api.ErrZero, "-(-n - 1) % 0": api.ErrOver, "(1 / 0 == 0) == (n + 1 == 0)": api.ErrZero,
		"len(cat(t, t)) / 0": api.ErrText, "len(t) / 0": api.ErrZero, "1 / 0 == 1 && n + 1 == 1": api.ErrZero, "n + 1 == 1 || 1 / 0 == 1": api.ErrOver, "true && 1 / 0 == 1 && n + 1 == 1": api.ErrZero, "n > 0 && at(t, n) == 1 || 1 / 0 == 1": api.ErrPlace,
	} {
		wantFault(t, text, long, fault)
	}
}

// P7.1, P7.2, P7.3, P7.4: types.Of's error is ahead of all others, also where it is in a place that would not be looked at.
func TestTypesFirst(t *testing.T) {
	for text, fault := range map[string]api.Errno{
		"1 / 0 + q": api.ErrName, "q + 1 / 0": api.ErrName, "1 / 0 == 1 || n": api.ErrType, "true || q": api.ErrName, "false && q": api.ErrName, "true || n": api.ErrType, "false && n": api.ErrType, "true || n + x == n": api.ErrType,
		"n + 1 / 0 + x": api.ErrType, "at(t, 99) == x": api.ErrType, "true || (false && q == 1)": api.ErrName, "q && n + x < 1": api.ErrName, "n + x < 1 && q": api.ErrType, "1 / 0 > 0 && !n": api.ErrType, "-t": api.ErrType, "-b": api.ErrType,
		"n % x": api.ErrType, "x % x": api.ErrType, "z / z": api.ErrType, "z < z": api.ErrType, "true >= false": api.ErrType, "cat(t, n)": api.ErrType, "at(n, t)": api.ErrType, "comp(n, n)": api.ErrType, "real(x)": api.ErrType, "len(n)": api.ErrType, "str(x)": api.ErrType, "n == x": api.ErrType, "self": api.ErrName,
	} {
		wantFault(t, text, some(), fault)
		wantAll(t, []string{"n", text, "1 / 0"}, some(), nil, 1, fault)
	}
}

// P7.2: a guard holds where it has no node, or comes to true.
func TestHolds(t *testing.T) {
	for _, binds := range [][]api.Bind{nil, {}, some()} {
		for _, e := range []api.Expr{{}, {Nodes: []api.Node{}}, {Nodes: parsed(t, "1 / 0").Nodes[:0]}} {
			if !eval.Holds(e, binds) {
				t.Error("Holds of no node")
			}
		}
	}
	for text, wanted := range map[string]bool{
		"true": true, "false": false, "b": true, "!b": false, "n == 7": true, "n != 7": false, "n > 0 || 1 / 0 == 1": true, "n < 0 && 1 / 0 == 1": false,
		"1": false, "n": false, "x": false, "z": false, "t": false, `"true"`: false, "1p0": false, "n - 6": false, "1 / 0": false, "1 / 0 == 1": false, "1 / 0 == 1 || true": false, "at(t, 2) == 0 || b": false, "q": false, "q == 1": false, "true || q": false, "true || n": false, "n == x": false,
	} {
		if holds := eval.Holds(parsed(t, text), some()); holds != wanted {
			complain(t, "Holds of %q: %v", text, holds)
		}
		hold(t, parsed(t, text), some())
	}
	for _, v := range []api.Value{whole(1), {Kind: api.Bool, Int: 2}, {Kind: api.Bool, Int: -1}, {Int: 1}, {Kind: 6, Int: 1}, truth(false)} {
		if eval.Holds(parsed(t, "v"), []api.Bind{bind("v", v)}) {
			complain(t, "Holds of %v", v)
		}
	}
	if !eval.Holds(parsed(t, "v"), []api.Bind{bind("v", api.Value{Kind: api.Bool, Int: 1, Real: none, Comp: 1i, Text: "false"})}) {
		t.Error("Holds of a bool with other fields filled")
	}
	if eval.Holds(api.Expr{Nodes: []api.Node{{}}}, some()) || eval.Holds(api.Expr{Nodes: make([]api.Node, 65)}, some()) {
		t.Error("Holds of what is no expression")
	}
}

// wantAll asks All of expressions.
func wantAll(t *testing.T, texts []string, binds []api.Bind, values []api.Value, place int, wanted api.Errno) {
	t.Helper()
	var l []api.Expr
	for _, text := range texts {
		l = append(l, parsed(t, text))
	}
	got, at, fault := eval.All(l, binds)
	if !slices.EqualFunc(got, values, alike) || at != place || fault != wanted {
		complain(t, "All of %q: %v, %d, %v; want %v, %d, %v", texts, got, at, fault, values, place, wanted)
	}
}

// P7.3: the values of all, or the first expression that has an error.
func TestAll(t *testing.T) {
	wantAll(t, []string{}, nil, nil, 0, api.OK)
	wantAll(t, []string{"n"}, some(), []api.Value{whole(7)}, 0, api.OK)
	wantAll(t, []string{"n", "x", "z", "t", "b", "n"}, some(), []api.Value{whole(7), scaled(1.5), pair(3, 4), said("ab"), truth(true), whole(7)}, 0, api.OK)
	wantAll(t, []string{"n - n", "-0p0", "cat(t, \"\")", "!b", "0p0 / 0p0"}, some(), []api.Value{whole(0), scaled(minus0), said("ab"), truth(false), scaled(none)}, 0, api.OK)
	for place := range 4 {
		for text, fault := range map[string]api.Errno{"1 / 0": api.ErrZero, "q": api.ErrName, "n + x": api.ErrType, "at(t, n)": api.ErrPlace, "9223372036854775807 + n": api.ErrOver} {
			texts := []string{"n", "t == t", "b || n == 0", "x"}
			texts[place] = text
			wantAll(t, texts, some(), nil, place, fault)
			wantAll(t, append(texts, "1 % 0", "p"), some(), nil, place, fault)
			wantAll(t, append([]string{"at(t, -1)"}, texts...), some(), nil, 0, api.ErrPlace)
		}
	}
	wantAll(t, []string{"q"}, some(), nil, 0, api.ErrName)
	for _, e := range noExpressions() {
		_, wanted := types.Of(e, nil)
		l, at, fault := eval.All([]api.Expr{parsed(t, "n"), e, parsed(t, "1 / 0")}, some())
		if len(l) != 0 || at != 1 || fault != wanted {
			complain(t, "All with %v: %v, %d, %v; want 1, %v", told(e), l, at, fault, wanted)
		}
	}
	many := slices.Repeat([]api.Expr{parsed(t, "n + 1")}, 2000)
	l, at, fault := eval.All(many, some())
	if len(l) != 2000 || at != 0 || fault != api.OK || !alike(l[1999], whole(8)) {
		complain(t, "All of 2000: %d, %d, %v", len(l), at, fault)
	}
	l, at, fault = eval.All(append(many, parsed(t, "1 % 0")), some())
	if len(l) != 0 || at != 2000 || fault != api.ErrZero {
		complain(t, "All of 2001: %d, %d, %v", len(l), at, fault)
	}
}

// noExpressions are lists of nodes that are none, or too long or too deep ones.
func noExpressions() []api.Expr {
	n, q := called("n"), called("q")
	deep, long := []api.Node{n}, []api.Node{n}
	for k := range 12 {
		deep = append(deep, one(api.NodeNeg, k))
	}
	for k := range 64 {
		long = append(long, one(api.NodeNeg, k))
	}
	var l []api.Expr
	for _, nodes := range [][]api.Node{
		nil, {}, {n, n}, {q, n}, {n, q}, {one(api.NodeNeg, 0)}, {n, one(api.NodeNeg, 1)}, {n, one(api.NodeNeg, -1)}, {n, one(api.NodeNeg, math.MaxInt)}, {one(api.NodeNeg, 1), n},
		{n, n, two(api.NodeAdd, 0, 2)}, {n, n, two(api.NodeAdd, 1, 0)}, {n, n, two(api.NodeAdd, 0, 0)}, {n, n, two(api.NodeAnd, 0, math.MinInt)}, {two(api.NodeOr, 0, 0)}, {leaf(truth(true)), leaf(truth(true)), two(api.NodeOr, 0, 2)},
		{{}}, {{Kind: 27}}, {{Kind: -1}}, {{Kind: math.MinInt}}, {called("")}, {called("true")}, {called("len")}, {called("1")}, {called(strings.Repeat("n", 33))}, {{Kind: api.NodeVar, Name: "n", B: 1}},
		{leaf(api.Value{})}, {leaf(whole(-1))}, {leaf(scaled(minus0))}, {leaf(scaled(none))}, {leaf(scaled(infinite))}, {leaf(pair(1, 1))}, {leaf(api.Value{Kind: api.Bool, Int: 2})}, {leaf(said(strings.Repeat("x", 257)))}, {leaf(api.Value{Kind: api.Int, Text: "1"})},
		deep, long, make([]api.Node, 65), append(slices.Clone(deep), q),
	} {
		l = append(l, api.Expr{Nodes: nodes})
	}
	return l
}

// P7.1 to P7.4: of lists of nodes that are no expression May's error is told, whatever the binds are.
func TestNoExpression(t *testing.T) {
	counts := map[api.Errno]int{}
	for _, e := range noExpressions() {
		wanted := expr.May(e)
		counts[wanted]++
		for _, binds := range [][]api.Bind{nil, some(), {bind("", whole(1)), bind("true", whole(1)), bind("len", whole(1))}} {
			if _, fault := hold(t, e, binds); fault != wanted || fault == api.OK {
				complain(t, "Eval of %v: %v; want %v", told(e), fault, wanted)
			}
		}
	}
	if counts[api.ErrExpr] < 30 || counts[api.ErrDepth] != 1 || counts[api.ErrNodes] != 2 {
		complain(t, "the errors are %v", counts)
	}
}
