package expr

import (
	"math"
	"strings"

	"chordmail/api"
	"chordmail/value"
)

// shape is how the nodes of a kind are written: their operator or word, their level, how many children they have.
type shape struct {
	text     string
	level    int
	children int
}

// The levels that the others ask for by name.
const (
	comparisons = 3
	signs       = 6
	words       = 7
)

var shapes = [...]shape{
	api.NodeOr:    {"||", 1, 2},
	api.NodeAnd:   {"&&", 2, 2},
	api.NodeEq:    {"==", comparisons, 2},
	api.NodeNe:    {"!=", comparisons, 2},
	api.NodeLt:    {"<", comparisons, 2},
	api.NodeLe:    {"<=", comparisons, 2},
	api.NodeGt:    {">", comparisons, 2},
	api.NodeGe:    {">=", comparisons, 2},
	api.NodeAdd:   {"+", 4, 2},
	api.NodeSub:   {"-", 4, 2},
	api.NodeMul:   {"*", 5, 2},
	api.NodeDiv:   {"/", 5, 2},
	api.NodeRem:   {"%", 5, 2},
	api.NodeNeg:   {"-", signs, 1},
	api.NodeNot:   {"!", signs, 1},
	api.NodeRe:    {"re", words, 1},
	api.NodeIm:    {"im", words, 1},
	api.NodeSize:  {"size2", words, 1},
	api.NodeReal:  {"real", words, 1},
	api.NodeLen:   {"len", words, 1},
	api.NodeStr:   {"str", words, 1},
	api.NodeComp:  {"comp", words, 2},
	api.NodeAt:    {"at", words, 2},
	api.NodeCat:   {"cat", words, 2},
	api.NodeValue: {"", words, 0},
	api.NodeVar:   {"", words, 0},
}

// shapeOf is a kind's shape; the level 0 of a number that is no kind.
func shapeOf(kind int) shape {
	if kind < 0 || kind >= len(shapes) {
		return shape{}
	}
	return shapes[kind]
}

// lowest is the level from which on a child stands without brackets beside an operator of a level. One of the operator's own level does so as A alone, as a level is taken together from the left; comparisons do not stand side by side at all.
func lowest(operator int, isB bool) int {
	if isB || operator == comparisons {
		return operator + 1
	}
	return operator
}

// word tells of which kind the nodes of a word are; 0 of a text that is none.
func word(text string) int {
	for kind := range shapes {
		if s := shapes[kind]; s.level == words && s.children > 0 && s.text == text {
			return kind
		}
	}
	return 0
}

// isLeaf tells whether a node that says nothing but what its kind names may stand without children.
func isLeaf(n api.Node) bool {
	switch n.Kind {
	case api.NodeValue:
		return isLiteral(n.Value)
	case api.NodeVar:
		return isName(n.Name) && n.Name != "true" && n.Name != "false" && word(n.Name) == 0
	}
	return false
}

// isLiteral tells whether a text may say the value: a sign ahead is a node of its own, and there is no literal of complex numbers, nor of what is no finite one.
func isLiteral(v api.Value) bool {
	switch v.Kind {
	case api.Int:
		return v.Int >= 0
	case api.Real:
		return !math.Signbit(v.Real) && v.Real <= math.MaxFloat64
	case api.Text, api.Bool:
		return value.May(v)
	}
	return false
}

func isName(s string) bool {
	if len(s) == 0 || len(s) > api.MaxName || !isLetter(s[0]) {
		return false
	}
	for i := range len(s) {
		if !isLetter(s[i]) && s[i] != '_' && (s[i] < '0' || s[i] > '9') {
			return false
		}
	}
	return true
}

func isLetter(c byte) bool { return 'A' <= c && c <= 'Z' || 'a' <= c && c <= 'z' }

// plain is the node with nothing but what its kind names, its children's numbers less by what stands ahead of it.
func plain(n api.Node, ahead int) api.Node {
	p := api.Node{Kind: n.Kind}
	switch shapeOf(n.Kind).children {
	case 2:
		p.B = n.B - ahead
		fallthrough
	case 1:
		p.A = n.A - ahead
	}
	switch n.Kind {
	case api.NodeValue:
		p.Value = value.Plain(n.Value)
	case api.NodeVar:
		p.Name = n.Name
	}
	return p
}

// own is plain, in memory of its own.
func own(n api.Node, ahead int) api.Node {
	p := plain(n, ahead)
	p.Name = strings.Clone(p.Name)
	return p
}
