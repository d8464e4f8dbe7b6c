package expr

import (
	"chordmail/api"
	"chordmail/value"
)

// Print answers the one text of an expression (P5.4).
func Print(e api.Expr) (string, api.Errno) {
	if fault := May(e); fault != api.OK {
		return "", fault
	}
	return string(appendNode(nil, e.Nodes, len(e.Nodes)-1)), api.OK
}

// appendNode appends the text of the node i.
func appendNode(out []byte, nodes []api.Node, i int) []byte {
	n := nodes[i]
	s := shapes[n.Kind]
	switch {
	case n.Kind == api.NodeValue:
		return append(out, value.Print(n.Value)...)
	case n.Kind == api.NodeVar:
		return append(out, n.Name...)
	case s.level == words:
		return appendCalled(out, nodes, i)
	case s.level == signs:
		out = append(out, s.text...)
		return appendChild(out, nodes, n.A, lowest(s.level, false))
	}
	out = appendChild(out, nodes, n.A, lowest(s.level, false))
	out = append(out, ' ')
	out = append(out, s.text...)
	out = append(out, ' ')
	return appendChild(out, nodes, n.B, lowest(s.level, true))
}

// appendChild appends the text of the node i, in brackets if its level is below another.
func appendChild(out []byte, nodes []api.Node, i, level int) []byte {
	if shapes[nodes[i].Kind].level >= level {
		return appendNode(out, nodes, i)
	}
	out = append(out, '(')
	out = appendNode(out, nodes, i)
	return append(out, ')')
}

// appendCalled appends the text of a word's node. The word's own brackets stand round its children, which need none besides.
func appendCalled(out []byte, nodes []api.Node, i int) []byte {
	n := nodes[i]
	s := shapes[n.Kind]
	out = append(out, s.text...)
	out = append(out, '(')
	out = appendNode(out, nodes, n.A)
	if s.children == 2 {
		out = append(out, ", "...)
		out = appendNode(out, nodes, n.B)
	}
	return append(out, ')')
}
