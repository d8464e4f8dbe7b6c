package expr

import (
	"chordmail/api"
	"chordmail/lex"
)

// reader goes over tokens and lists the nodes that they make.
type reader struct {
	tokens []lex.Token
	at     int
	nodes  []api.Node
}

// giveUp ends the reading at the token that cannot stand where it does.
func (r *reader) giveUp() {
	panic(refusal{r.at, api.ErrExpr})
}

// whole is the expression that was read, if it has not too many nodes and is not too deep.
func (r *reader) whole(from int) api.Expr {
	e := api.Expr{Nodes: r.nodes}
	if fault := May(e); fault != api.OK {
		panic(refusal{from, fault})
	}
	return e
}

// add lists a node and answers its number. Reading goes on where there are too many, as what is wrong behind them is told ahead of that.
func (r *reader) add(n api.Node) int {
	r.nodes = append(r.nodes, n)
	return len(r.nodes) - 1
}

// mark is the text of the next token, if that is a mark.
func (r *reader) mark() string {
	if r.at < len(r.tokens) && r.tokens[r.at].Kind == lex.Mark {
		return r.tokens[r.at].Text
	}
	return ""
}

// want goes over a mark that has to stand next.
func (r *reader) want(mark string) {
	if r.mark() != mark {
		r.giveUp()
	}
	r.at++
}

// level reads what stands on a level of the grammar, or on one above it, and answers its node's number. An operator takes what was read so far, if that could stand on its left without brackets.
func (r *reader) level(n int) int {
	a, on := r.signed(), signs
	for {
		kind := between(r.mark())
		l := shapes[kind].level
		if l < n || on < lowest(l, false) {
			return a
		}
		r.at++
		a, on = r.pair(kind, a, r.level(lowest(l, true))), l
	}
}

func (r *reader) pair(kind, a, b int) int {
	return r.add(api.Node{Kind: kind, A: a, B: b})
}

// between tells of a mark of which kind the node is that it makes of the two beside it; 0 of one that stands between none.
func between(mark string) int {
	switch mark {
	case "||":
		return api.NodeOr
	case "&&":
		return api.NodeAnd
	case "==":
		return api.NodeEq
	case "!=":
		return api.NodeNe
	case "<":
		return api.NodeLt
	case "<=":
		return api.NodeLe
	case ">":
		return api.NodeGt
	case ">=":
		return api.NodeGe
	case "+":
		return api.NodeAdd
	case "-":
		return api.NodeSub
	case "*":
		return api.NodeMul
	case "/":
		return api.NodeDiv
	case "%":
		return api.NodeRem
	}
	return 0
}

// signed reads what stands without an operator between two: an operand, or a sign or a bracket and what belongs to it.
func (r *reader) signed() int {
	switch r.mark() {
	case "-":
		r.at++
		return r.single(api.NodeNeg, r.signed())
	case "!":
		r.at++
		return r.single(api.NodeNot, r.signed())
	case "(":
		r.at++
		a := r.level(1)
		r.want(")")
		return a
	}
	return r.operand()
}

func (r *reader) single(kind, a int) int {
	return r.add(api.Node{Kind: kind, A: a})
}

// operand reads a value, a variable, or a word with its brackets.
func (r *reader) operand() int {
	if r.at == len(r.tokens) {
		r.giveUp()
	}
	switch t := r.tokens[r.at]; t.Kind {
	case lex.Int:
		return r.literal(api.Value{Kind: api.Int, Int: t.Int})
	case lex.Real:
		return r.literal(api.Value{Kind: api.Real, Real: t.Real})
	case lex.Text:
		return r.literal(api.Value{Kind: api.Text, Text: t.Text})
	case lex.Name:
		return r.named(t.Text)
	}
	r.giveUp()
	return 0
}

// named reads what begins with a name.
func (r *reader) named(name string) int {
	switch name {
	case "true":
		return r.literal(api.Value{Kind: api.Bool, Int: 1})
	case "false":
		return r.literal(api.Value{Kind: api.Bool})
	}
	if kind := word(name); kind != 0 {
		r.at++
		return r.called(kind)
	}
	return r.leaf(api.Node{Kind: api.NodeVar, Name: name})
}

// called reads the brackets behind a word.
func (r *reader) called(kind int) int {
	r.want("(")
	a := r.level(1)
	if shapes[kind].children == 1 {
		r.want(")")
		return r.single(kind, a)
	}
	r.want(",")
	b := r.level(1)
	r.want(")")
	return r.pair(kind, a, b)
}

func (r *reader) literal(v api.Value) int {
	return r.leaf(api.Node{Kind: api.NodeValue, Value: v})
}

// leaf goes over a token that makes a node by itself.
func (r *reader) leaf(n api.Node) int {
	if !isLeaf(n) {
		r.giveUp()
	}
	r.at++
	return r.add(own(n, 0))
}
