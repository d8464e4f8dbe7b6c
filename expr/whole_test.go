package expr_test

import (
	"bytes"
	"slices"
	"strings"
	"sync"
	"testing"
	"unsafe"

	"chordmail/api"
	"chordmail/expr"
	"chordmail/lex"
)

// within tells whether the bytes of a stand in those of b.
func within(a, b string) bool {
	from, at := uintptr(unsafe.Pointer(unsafe.StringData(b))), uintptr(unsafe.Pointer(unsafe.StringData(a)))
	return len(a) > 0 && at >= from && at < from+uintptr(len(b))
}

// texts are the texts of nodes, which their memory may be asked for.
func texts(nodes []api.Node) []string {
	var l []string
	for _, n := range nodes {
		l = append(l, n.Name, n.Value.Text)
	}
	return l
}

func apart(t *testing.T, call string, answer, other []string) {
	t.Helper()
	for _, a := range answer {
		for _, b := range other {
			if within(a, b) {
				t.Errorf("%s shares the bytes of %q", call, a)
			}
		}
	}
}

const longText = `longname + at("a long text", othername) < comp(1p0, longname) && cat("a long text", "")`

// P5.9: the text, the tokens and the nodes that are handed in stay as they were, with the room behind them, and what is done with them later changes no answer.
func TestHandedIn(t *testing.T) {
	wanted := slices.Clone(parsed(t, longText).Nodes)

	text := []byte(longText + "!!")
	e, _, _ := expr.Parse(text[:len(longText)])
	if string(text) != longText+"!!" {
		t.Errorf("Parse made %q of its text", text)
	}
	for i := range text {
		text[i] = '#'
	}
	if !same(e.Nodes, wanted) {
		t.Error("Parse's answer changes with the text")
	}

	l := append(tokensOf(t, longText), lex.Token{Kind: lex.Mark, Text: "+"}, lex.Token{Kind: lex.Int, Int: 1})
	before := slices.Clone(l)
	e, _, _ = expr.Read(l[:len(l)-2], 0)
	var said []string
	for _, x := range l {
		said = append(said, x.Text)
	}
	apart(t, "Read", texts(e.Nodes), said)
	if !slices.Equal(l, before) {
		t.Error("Read changes its tokens")
	}
	clear(l)
	if !same(e.Nodes, wanted) {
		t.Error("Read's answer changes with the tokens")
	}

	nodes := append(slices.Clone(wanted), called("x"), whole(1))
	kept := slices.Clone(nodes)
	handed := api.Expr{Nodes: nodes[:len(wanted)]}
	s, _ := expr.Print(handed)
	sub, _ := expr.Sub(handed, len(wanted)-1)
	part, _ := expr.Sub(handed, 3)
	names := expr.Vars(handed)
	expr.May(handed)
	if !slices.Equal(nodes, kept) {
		t.Error("the nodes are changed")
	}
	apart(t, "Sub", texts(sub.Nodes), texts(nodes))
	apart(t, "Vars", names, texts(nodes))
	apart(t, "Print", []string{s}, texts(nodes))
	clear(nodes)
	if s != longText || !same(sub.Nodes, wanted) || !slices.Equal(names, []string{"longname", "othername"}) {
		t.Errorf("the answers change with the nodes: %q, %v, %v", s, sub.Nodes, names)
	}
	if !same(part.Nodes, []api.Node{wanted[1], wanted[2], two(api.NodeAt, 0, 1)}) {
		t.Errorf("a part's answer changes with the nodes: %v", part.Nodes)
	}
}

// P5.9: what is answered twice is twice there: a change to one answer, or behind it, is none to another.
func TestNewMemory(t *testing.T) {
	l := tokensOf(t, longText)
	wanted := slices.Clone(parsed(t, longText).Nodes)
	handed := api.Expr{Nodes: slices.Clone(wanted)}
	for name, call := range map[string]func() api.Expr{
		"Parse": func() api.Expr { return parsed(t, longText) },
		"Read":  func() api.Expr { e, _, _ := expr.Read(l, 0); return e },
		"Sub":   func() api.Expr { e, _ := expr.Sub(handed, len(wanted)-1); return e },
	} {
		a, b := call(), call()
		apart(t, name, texts(a.Nodes), texts(b.Nodes))
		behind := append(b.Nodes, called("x"))
		clear(a.Nodes[:cap(a.Nodes)])
		if !same(behind, append(slices.Clone(wanted), called("x"))) || !same(handed.Nodes, wanted) {
			t.Errorf("%s: one answer changes with another", name)
		}
		if c := call(); !same(c.Nodes, wanted) {
			t.Errorf("%s: a later answer changes with an earlier one: %v", name, c.Nodes)
		}
	}
	a, b := expr.Vars(handed), expr.Vars(handed)
	apart(t, "Vars", a, b)
	clear(a[:cap(a)])
	if !slices.Equal(b, []string{"longname", "othername"}) {
		t.Errorf("Vars: one answer changes with another: %v", b)
	}
	x, _ := expr.Print(handed)
	y, _ := expr.Print(handed)
	apart(t, "Print", []string{x}, []string{y})
}

// P5.9: nothing is kept from call to call: a call answers the same behind others that failed, and beside them.
func TestNothingKept(t *testing.T) {
	wanted := slices.Clone(parsed(t, longText).Nodes)
	var group sync.WaitGroup
	for range 8 {
		group.Go(func() {
			for _, other := range []string{"(a", strings.Repeat("-", 30) + "x", strings.Repeat("x + ", 70) + "x", "a $", "", "re(a, b)", "x"} {
				expr.Parse([]byte(other))
				e, at, fault := expr.Parse(bytes.Clone([]byte(longText)))
				if fault != api.OK || at != 0 || !same(e.Nodes, wanted) {
					t.Errorf("behind %.20q: %v, %d, %v", other, e.Nodes, at, fault)
				}
			}
		})
	}
	group.Wait()
}
