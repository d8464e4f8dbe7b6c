package eval_test

import (
	"slices"
	"strings"
	"testing"
	"unsafe"

	"chordmail/api"
	"chordmail/eval"
)

const longText = `at(cat(cat("", t), "a text"), 1) > 0 && (t == cat(t, "") || str(n) == s) && cat(s, t) != t`

func longBinds() []api.Bind {
	return []api.Bind{bind("t", said(strings.Clone("one"))), bind("n", whole(5)), bind("s", said(strings.Clone("two"))), bind("t", said("three"))}
}

// within tells whether the bytes of a stand in those of b.
func within(a, b string) bool {
	from, at := uintptr(unsafe.Pointer(unsafe.StringData(b))), uintptr(unsafe.Pointer(unsafe.StringData(a)))
	return len(a) > 0 && at >= from && at < from+uintptr(len(b))
}

func textsOf(l []eval.Step) []string {
	var all []string
	for _, s := range l {
		all = append(all, s.Value.Text)
	}
	return all
}

func apart(t *testing.T, call string, answer, other []string) {
	t.Helper()
	for _, a := range answer {
		for _, b := range other {
			if within(a, b) {
				complain(t, "%s shares the bytes of %q", call, a)
			}
		}
	}
}

// ask makes each of the four calls.
func ask(e api.Expr, binds []api.Bind) {
	eval.Eval(e, binds)
	eval.Holds(e, binds)
	eval.All([]api.Expr{e, e}, binds)
	eval.Steps(e, binds)
}

// P7.8: the lists that are handed in stay as they were, with the room behind them.
func TestHandedIn(t *testing.T) {
	for _, text := range []string{longText, "n / 0", "q", "n + t", "true || n == 1", "cat(t, \"\")"} {
		nodes := append(slices.Clone(parsed(t, text).Nodes), called("r"), leaf(whole(1)), one(api.NodeNeg, 0))
		binds := append(longBinds(), bind("r", whole(3)), bind("n", said("x")), bind("", api.Value{Kind: -1}))
		exprs := []api.Expr{parsed(t, "n"), {Nodes: nodes[:len(nodes)-3]}, parsed(t, "t"), {Nodes: nodes}}
		keptNodes, keptBinds, keptExprs := slices.Clone(nodes), slices.Clone(binds), slices.Clone(exprs)
		ask(api.Expr{Nodes: nodes[:len(nodes)-3]}, binds[:len(binds)-3])
		ask(api.Expr{Nodes: nodes}, binds)
		ask(api.Expr{Nodes: nodes[:0]}, binds[:0])
		eval.All(exprs[:3], binds)
		eval.All(exprs, binds)
		if !slices.Equal(nodes, keptNodes) || !slices.Equal(binds, keptBinds) {
			complain(t, "%q: what was handed in is changed: %v, %v", text, nodes, binds)
		}
		if !slices.EqualFunc(exprs, keptExprs, func(a, b api.Expr) bool { return slices.Equal(a.Nodes, b.Nodes) && len(a.Nodes) == len(b.Nodes) }) {
			complain(t, "%q: the list of expressions is changed: %v", text, exprs)
		}
	}
}

// P7.8: what stands behind a list, in its room, is not looked at.
func TestRoomBehind(t *testing.T) {
	binds := append(some(), bind("q", whole(1)))
	if v, fault := eval.Eval(parsed(t, "q"), binds[:len(some())]); !alike(v, api.Value{}) || fault != api.ErrName {
		complain(t, "Eval of q, which stands behind the binds: %v, %v", v, fault)
	}
	nodes := append(parsed(t, "n").Nodes, called("q"), two(api.NodeAdd, 0, 1))
	if v, fault := eval.Eval(api.Expr{Nodes: nodes[:1]}, some()); !alike(v, whole(7)) || fault != api.OK {
		complain(t, "Eval of n, behind which other nodes stand: %v, %v", v, fault)
	}
	l := []api.Expr{parsed(t, "n"), parsed(t, "q")}
	if values, at, fault := eval.All(l[:1], some()); len(values) != 1 || at != 0 || fault != api.OK {
		complain(t, "All of n, behind which another expression stands: %v, %d, %v", values, at, fault)
	}
}

// P7.8: an answer shares no bytes with what was handed in, nor one part of it with another.
func TestShared(t *testing.T) {
	for _, text := range []string{longText, "t", `"a text"`, `cat("", t)`, `cat(t, "")`, `cat("a text", "")`, `cat(cat("", t), "")`, "cat(s, t)", "str(n)"} {
		e, binds := parsed(t, text), longBinds()
		var handed []string
		for _, n := range e.Nodes {
			handed = append(handed, n.Name, n.Value.Text)
		}
		for _, b := range binds {
			handed = append(handed, b.Name, b.Value.Text)
		}
		l, fault := eval.Steps(e, binds)
		again, _ := eval.Steps(e, binds)
		if fault != api.OK {
			t.Fatalf("Steps of %q: %v", text, fault)
		}
		texts := textsOf(l)
		apart(t, "Steps of "+text, texts, handed)
		apart(t, "Steps of "+text+", again,", texts, textsOf(again))
		for i := range texts {
			apart(t, "one step of "+text, texts[i:i+1], slices.Concat(texts[:i], texts[i+1:]))
		}
		v, _ := eval.Eval(e, binds)
		w, _ := eval.Eval(e, binds)
		apart(t, "Eval of "+text, []string{v.Text}, append(handed, w.Text))
		values, _, _ := eval.All([]api.Expr{e, e, e}, binds)
		for i, v := range values {
			apart(t, "All of "+text, []string{v.Text}, handed)
			for _, other := range values[i+1:] {
				apart(t, "All of "+text, []string{v.Text}, []string{other.Text})
			}
		}
	}
}

// P7.8: nothing of what is handed in is kept, and each answer is memory of its own, the room behind it too.
func TestNewMemory(t *testing.T) {
	e, binds := parsed(t, longText), longBinds()
	wanted, wrong := reference(e, binds)
	for _, text := range []string{longText, "n / 0 == 1", "n", "n > 9 && t == s"} {
		e := parsed(t, text)
		wanted, _ := reference(e, binds)
		a, _ := eval.Steps(e, binds)
		b, fault := eval.Steps(e, binds)
		behind := append(b, failed(77, 77))
		clear(a[:cap(a)])
		if fault != api.OK || !alikeSteps(b, wanted) || !alikeSteps(behind, append(slices.Clone(wanted), failed(77, 77))) {
			complain(t, "Steps of %q: an answer changes with another: %v, %v", text, b, fault)
		}
	}
	x, _, _ := eval.All([]api.Expr{parsed(t, "n"), parsed(t, "t")}, binds)
	y, _, _ := eval.All([]api.Expr{parsed(t, "n"), parsed(t, "t")}, binds)
	clear(x[:cap(x)])
	if !slices.EqualFunc(y, []api.Value{whole(5), said("one")}, alike) {
		complain(t, "All: an answer changes with another: %v", y)
	}
	l, fault := eval.Steps(e, binds)
	again := parsed(t, longText)
	clear(e.Nodes)
	clear(binds)
	if !alikeSteps(l, wanted) || fault != wrong {
		complain(t, "Steps' answer changes with what was handed in: %v, %v", l, fault)
	}
	wantFault(t, longText, binds, api.ErrName)
	if _, fault := eval.Eval(e, longBinds()); fault != api.ErrExpr {
		complain(t, "Eval of nodes that were taken away: %v", fault)
	}
	if l, fault := eval.Steps(again, longBinds()); !alikeSteps(l, wanted) || fault != wrong {
		complain(t, "Steps, later: %v, %v; want %v, %v", l, fault, wanted, wrong)
	}
}
