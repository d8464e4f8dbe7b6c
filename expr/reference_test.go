package expr_test

import (
	"math"
	"regexp"
	"slices"
	"strings"

	"chordmail/api"
	"chordmail/lex"
	"chordmail/value"
)

// The reference has the chapter's grammar as data, and goes over a list of tokens with all rules at once (Earley's way): it tells of each list how far it could still become an expression, and which one it is. It knows no levels but the grammar's own, and nothing of who binds whom.

// A rule's first word is what it makes, the last one, behind the #, the kind of its node (0: none of its own).
const grammarText = `
level1 level2 #0
level1 level1 || level2 #17
level2 level3 #0
level2 level2 && level3 #16
level3 level4 #0
level3 level4 == level4 #10
level3 level4 != level4 #11
level3 level4 < level4 #12
level3 level4 <= level4 #13
level3 level4 > level4 #14
level3 level4 >= level4 #15
level4 level5 #0
level4 level4 + level5 #5
level4 level4 - level5 #6
level5 level6 #0
level5 level5 * level6 #7
level5 level5 / level6 #8
level5 level5 % level6 #9
level6 level7 #0
level6 - level6 #3
level6 ! level6 #4
level7 leaf #0
level7 ( level1 ) #0
level7 re ( level1 ) #18
level7 im ( level1 ) #19
level7 size2 ( level1 ) #20
level7 comp ( level1 , level1 ) #21
level7 real ( level1 ) #22
level7 len ( level1 ) #23
level7 at ( level1 , level1 ) #24
level7 cat ( level1 , level1 ) #25
level7 str ( level1 ) #26
`

type rule struct {
	makes string
	parts []string
	kind  int
}

var grammar = readGrammar()

func readGrammar() []rule {
	var all []rule
	for _, line := range strings.Split(strings.TrimSpace(grammarText), "\n") {
		words := strings.Fields(line)
		last := len(words) - 1
		r := rule{makes: words[0], parts: words[1:last]}
		for _, c := range words[last][1:] {
			r.kind = 10*r.kind + int(c-'0')
		}
		all = append(all, r)
	}
	return all
}

// tree is an expression with its children in it.
type tree struct {
	node     api.Node
	children []*tree
}

// flat lists the nodes of a tree.
func (x *tree) flat() []api.Node { return x.behind(nil) }

func (x *tree) behind(nodes []api.Node) []api.Node {
	n := x.node
	for i, c := range x.children {
		nodes = c.behind(nodes)
		if i == 0 {
			n.A = len(nodes) - 1
		} else {
			n.B = len(nodes) - 1
		}
	}
	return append(nodes, n)
}

func (x *tree) depth() int {
	deepest := 0
	for _, c := range x.children {
		deepest = max(deepest, c.depth())
	}
	return deepest + 1
}

// item is a rule of which some parts were read, from a place on; the trees are those of its parts that are levels.
type item struct {
	rule, read, from int
	trees            []*tree
}

// chart has for each place the items that may stand there.
type chart [][]item

func (i item) next() string {
	if r := grammar[i.rule]; i.read < len(r.parts) {
		return r.parts[i.read]
	}
	return ""
}

// made is the tree of a rule all of whose parts were read.
func (i item) made() *tree {
	if kind := grammar[i.rule].kind; kind != 0 {
		return &tree{api.Node{Kind: kind}, i.trees}
	}
	return i.trees[0]
}

func newChart() chart {
	c := chart{nil}
	c.predict(0, "level1")
	c.close(0)
	return c
}

func (c chart) put(at int, i item) {
	for _, have := range c[at] {
		if have.rule == i.rule && have.read == i.read && have.from == i.from {
			return
		}
	}
	c[at] = append(c[at], i)
}

func (c chart) predict(at int, level string) {
	for k, r := range grammar {
		if r.makes == level {
			c.put(at, item{rule: k, from: at})
		}
	}
}

// close adds what follows from the items of a place.
func (c chart) close(at int) {
	for k := 0; k < len(c[at]); k++ {
		i := c[at][k]
		if next := i.next(); next != "" {
			c.predict(at, next)
			continue
		}
		for _, w := range slices.Clone(c[i.from]) {
			if w.next() == grammar[i.rule].makes {
				c.put(at, item{w.rule, w.read + 1, w.from, append(slices.Clone(w.trees), i.made())})
			}
		}
	}
}

// add goes on by a token; false, if it cannot stand here.
func (c chart) add(t lex.Token) (chart, bool) {
	at := len(c) - 1
	terminal, leaf := terminalOf(t)
	longer := append(c[:at+1:at+1], nil)
	for _, i := range c[at] {
		if terminal == "" || i.next() != terminal {
			continue
		}
		trees := i.trees
		if terminal == "leaf" {
			trees = []*tree{{node: leaf}}
		}
		longer.put(at+1, item{i.rule, i.read + 1, i.from, trees})
	}
	longer.close(at + 1)
	return longer, len(longer[at+1]) > 0
}

// done is the expression that the tokens make so far; nil, if they are none.
func (c chart) done() *tree {
	for _, i := range c[len(c)-1] {
		if i.next() == "" && i.from == 0 && grammar[i.rule].makes == "level1" {
			return i.made()
		}
	}
	return nil
}

var (
	namePattern     = regexp.MustCompile(`^[A-Za-z][A-Za-z0-9_]{0,31}$`)
	reservedPattern = regexp.MustCompile(`^(true|false|re|im|size2|comp|real|len|at|cat|str)$`)
)

// terminalOf tells which terminal of the grammar a token is, and its node, if it is a leaf; "" of one that can stand nowhere.
func terminalOf(t lex.Token) (string, api.Node) {
	v := api.Value{}
	switch t.Kind {
	case lex.Name:
		switch {
		case t.Text == "true":
			return "leaf", truth(true)
		case t.Text == "false":
			return "leaf", truth(false)
		case reservedPattern.MatchString(t.Text):
			return t.Text, api.Node{}
		case namePattern.MatchString(t.Text):
			return "leaf", called(t.Text)
		}
		return "", api.Node{}
	case lex.Mark:
		return t.Text, api.Node{}
	case lex.Int:
		v = api.Value{Kind: api.Int, Int: t.Int}
	case lex.Real:
		v = api.Value{Kind: api.Real, Real: t.Real}
	case lex.Text:
		v = api.Value{Kind: api.Text, Text: t.Text}
	default:
		return "", api.Node{}
	}
	// A value's text that begins with a sign, or with a letter, is no token's.
	if text := value.Print(v); text == "" || !strings.Contains("0123456789\"", text[:1]) {
		return "", api.Node{}
	}
	return "leaf", api.Node{Kind: api.NodeValue, Value: v}
}

// limited answers a tree's nodes, or the error of one that is too great, at a place.
func limited(x *tree, from, end int) ([]api.Node, int, api.Errno) {
	nodes := x.flat()
	switch {
	case len(nodes) > 64:
		return nil, from, api.ErrNodes
	case x.depth() > 12:
		return nil, from, api.ErrDepth
	}
	return nodes, end, api.OK
}

// referenceTree reads tokens from the first one on, as far as they go, and tells how many these are.
func referenceTree(l []lex.Token) (*tree, int) {
	c := newChart()
	for i, t := range l {
		longer, ok := c.add(t)
		if !ok {
			return c.done(), i
		}
		c = longer
	}
	return c.done(), len(l)
}

func referenceRead(l []lex.Token, from int) ([]api.Node, int, api.Errno) {
	x, n := referenceTree(l[from:])
	if x == nil {
		return nil, from + n, api.ErrExpr
	}
	return limited(x, from, from+n)
}

func referenceParse(text string) ([]api.Node, int, api.Errno) {
	l, at, e := lex.Scan([]byte(text))
	if e != api.OK {
		return nil, at, e
	}
	places := make([]int, 0, len(l)+1)
	for _, t := range l {
		places = append(places, t.At)
	}
	places = append(places, len(text))
	x, n := referenceTree(l)
	if x == nil || n < len(l) {
		return nil, places[n], api.ErrExpr
	}
	return limited(x, places[0], 0)
}

var words = map[int]string{18: "re", 19: "im", 20: "size2", 21: "comp", 22: "real", 23: "len", 24: "at", 25: "cat", 26: "str"}

var operators = map[int]string{17: "||", 16: "&&", 10: "==", 11: "!=", 12: "<", 13: "<=", 14: ">", 15: ">=", 5: "+", 6: "-", 7: "*", 8: "/", 9: "%"}

var signs = map[int]string{3: "-", 4: "!"}

func bracketed(text string) string { return "(" + text + ")" }

// together is a node's text, by those of its children.
func together(n api.Node, children []string) string {
	switch {
	case n.Kind == api.NodeValue:
		return value.Print(n.Value)
	case n.Kind == api.NodeVar:
		return n.Name
	case len(children) == 1:
		return signs[n.Kind] + words[n.Kind] + children[0]
	case words[n.Kind] != "":
		return words[n.Kind] + bracketed(children[0][1:len(children[0])-1]+", "+children[1][1:len(children[1])-1])
	}
	return children[0] + " " + operators[n.Kind] + " " + children[1]
}

// referencePrint tries for each child of a sign or an operator whether the text is read as another expression without the brackets round it.
func referencePrint(x *tree) string {
	var all []string
	for _, c := range x.children {
		all = append(all, bracketed(referencePrint(c)))
	}
	if words[x.node.Kind] != "" {
		return together(x.node, all)
	}
	short := slices.Clone(all)
	for i, text := range all {
		tried := slices.Clone(all)
		tried[i] = text[1 : len(text)-1]
		l, _, _ := lex.Scan([]byte(together(x.node, tried)))
		if y, n := referenceTree(l); y != nil && n == len(l) && same(y.flat(), x.flat()) {
			short[i] = tried[i]
		}
	}
	return together(x.node, short)
}

// same also tells a real -0 from a real +0.
func same(a, b []api.Node) bool {
	return slices.EqualFunc(a, b, func(x, y api.Node) bool {
		return x == y && signBits(x.Value) == signBits(y.Value)
	})
}

func signBits(v api.Value) [3]bool {
	return [3]bool{math.Signbit(v.Real), math.Signbit(real(v.Comp)), math.Signbit(imag(v.Comp))}
}

// referenceMay tells by the chapter's words alone whether nodes are an expression: it lists each node's nodes, one after the other.
func referenceMay(nodes []api.Node) api.Errno {
	if len(nodes) > 64 {
		return api.ErrNodes
	}
	if len(nodes) == 0 {
		return api.ErrExpr
	}
	under := make([][]int, len(nodes))
	deep := make([]int, len(nodes))
	for i, n := range nodes {
		var children []int
		switch {
		case n.Kind == api.NodeValue || n.Kind == api.NodeVar:
		case signs[n.Kind] != "" || words[n.Kind] != "" && n.Kind != 21 && n.Kind != 24 && n.Kind != 25:
			children = []int{n.A}
		case operators[n.Kind] != "" || words[n.Kind] != "":
			children = []int{n.A, n.B}
		default:
			return api.ErrExpr
		}
		for _, c := range children {
			if c < 0 || c >= i {
				return api.ErrExpr
			}
			under[i] = append(under[i], under[c]...)
			deep[i] = max(deep[i], deep[c])
		}
		under[i] = append(under[i], i)
		deep[i]++
		for k, u := range under[i] {
			if u != i-len(under[i])+1+k {
				return api.ErrExpr
			}
		}
	}
	if len(under[len(nodes)-1]) != len(nodes) {
		return api.ErrExpr
	}
	if slices.Max(deep) > 12 {
		return api.ErrDepth
	}
	return api.OK
}
