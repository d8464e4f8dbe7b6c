package expr

import (
	"slices"
	"strings"

	"chordmail/api"
)

// outline is, of each node of a list, where its nodes begin and how deep it is.
type outline struct {
	first [api.MaxNodes]int
	depth [api.MaxNodes]int
}

// outlineOf is the outline of an expression, or the error of one that may not be.
func outlineOf(nodes []api.Node) (outline, api.Errno) {
	var o outline
	if len(nodes) > api.MaxNodes {
		return o, api.ErrNodes
	}
	last := len(nodes) - 1
	for i, n := range nodes {
		if n != plain(n, 0) || !o.place(i, n) {
			return outline{}, api.ErrExpr
		}
	}
	if last < 0 || o.first[last] != 0 {
		return outline{}, api.ErrExpr
	}
	if o.depth[last] > api.MaxDepth { // none is deeper than the one that has all others
		return outline{}, api.ErrDepth
	}
	return o, api.OK
}

// place sets what the outline says of a node; false, if the node cannot stand behind those ahead of it.
func (o *outline) place(i int, n api.Node) bool {
	o.first[i], o.depth[i] = i, 1
	switch shapeOf(n.Kind).children {
	case 2:
		if !o.join(i, n.B) {
			return false
		}
		fallthrough
	case 1:
		return o.join(i, n.A)
	}
	return isLeaf(n)
}

// join lays a child's nodes to those of the node i, if they end just where these begin.
func (o *outline) join(i, child int) bool {
	if child < 0 || child != o.first[i]-1 {
		return false
	}
	o.first[i] = o.first[child]
	o.depth[i] = max(o.depth[i], o.depth[child]+1)
	return true
}

// May tells whether the nodes are an expression that is neither too long nor too deep (P5.3).
func May(e api.Expr) api.Errno {
	_, fault := outlineOf(e.Nodes)
	return fault
}

// Sub answers the expression of one node (P5.5).
func Sub(e api.Expr, node int) (api.Expr, api.Errno) {
	o, fault := outlineOf(e.Nodes)
	if fault != api.OK {
		return api.Expr{}, fault
	}
	if node < 0 || node >= len(e.Nodes) {
		return api.Expr{}, api.ErrArg
	}
	first := o.first[node]
	var nodes []api.Node
	for _, n := range e.Nodes[first : node+1] {
		nodes = append(nodes, own(n, first))
	}
	return api.Expr{Nodes: nodes}, api.OK
}

// Vars answers the variables, each once, as they first stand (P5.5).
func Vars(e api.Expr) []string {
	if May(e) != api.OK {
		return nil
	}
	var names []string
	for _, n := range e.Nodes {
		if n.Kind == api.NodeVar && !slices.Contains(names, n.Name) {
			names = append(names, strings.Clone(n.Name))
		}
	}
	return names
}
