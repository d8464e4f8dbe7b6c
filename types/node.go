package types

import (
	"chordmail/api"
	"chordmail/expr"
)

// kinds are the types of an expression's nodes, by their numbers.
type kinds [api.MaxNodes]int

// kindsOf is the types of all nodes, or the number of the first one that is wrong and its error.
func kindsOf(e api.Expr, vars []api.Field) (kinds, int, api.Errno) {
	var k kinds
	if fault := expr.May(e); fault != api.OK {
		return kinds{}, 0, fault
	}
	for i, n := range e.Nodes {
		if k[i] = k.of(n, vars); k[i] == 0 {
			return kinds{}, i, lack(n)
		}
	}
	return k, 0, api.OK
}

// lack is the error of a node without a type.
func lack(n api.Node) api.Errno {
	if n.Kind == api.NodeVar {
		return api.ErrName
	}
	return api.ErrType
}

// of is the type of a node by those of its children, which stand ahead of it; 0, if it has none. An operator that takes all that the next case takes, and more, goes on there; one of a single side goes on as if that were both.
func (k *kinds) of(n api.Node, vars []api.Field) int {
	a, b := k[n.A], k[n.B]
	both := when(a == b, a)
	switch n.Kind {
	case api.NodeValue:
		return n.Value.Kind
	case api.NodeVar:
		return given(n.Name, vars)
	case api.NodeNeg:
		both = a
		fallthrough
	case api.NodeAdd, api.NodeSub, api.NodeMul:
		if both == api.Comp {
			return api.Comp
		}
		fallthrough
	case api.NodeDiv:
		if both == api.Real {
			return api.Real
		}
		fallthrough
	case api.NodeRem:
		return when(both == api.Int, api.Int)
	case api.NodeEq, api.NodeNe:
		if both == api.Comp || both == api.Bool {
			return api.Bool
		}
		fallthrough
	case api.NodeLt, api.NodeLe, api.NodeGt, api.NodeGe:
		return when(both == api.Int || both == api.Real || both == api.Text, api.Bool)
	case api.NodeNot:
		both = a
		fallthrough
	case api.NodeAnd, api.NodeOr:
		return when(both == api.Bool, api.Bool)
	}
	return called(n.Kind, a, b)
}

// called is the type of a word's node.
func called(word, a, b int) int {
	switch word {
	case api.NodeRe, api.NodeIm, api.NodeSize:
		return when(a == api.Comp, api.Real)
	case api.NodeComp:
		return when(a == api.Real && b == api.Real, api.Comp)
	case api.NodeReal:
		return when(a == api.Int, api.Real)
	case api.NodeLen:
		return when(a == api.Text, api.Int)
	case api.NodeAt:
		return when(a == api.Text && b == api.Int, api.Int)
	case api.NodeCat:
		return when(a == api.Text && b == api.Text, api.Text)
	case api.NodeStr:
		return when(a == api.Int, api.Text)
	}
	return 0
}

func when(holds bool, kind int) int {
	if holds {
		return kind
	}
	return 0
}

// given is the type of a variable; 0, if none is given.
func given(name string, vars []api.Field) int {
	for _, v := range vars {
		if v.Name == name && v.Kind >= api.Int && v.Kind <= api.Bool {
			return v.Kind
		}
	}
	return 0
}
