package types_test

import (
	"slices"
	"strings"

	"chordmail/api"
	"chordmail/expr"
)

// The reference has the chapter's table as data, and works each node's type out from its leaves on, anew for each node: it has no list of types that it fills.

// A line's numbers are kinds of nodes, then come the types of the children, and behind the = the type.
const tableText = `
3 int = int
3 real = real
3 comp = comp
4 bool = bool
5 6 7 int int = int
5 6 7 real real = real
5 6 7 comp comp = comp
8 int int = int
8 real real = real
9 int int = int
10 11 int int = bool
10 11 real real = bool
10 11 comp comp = bool
10 11 text text = bool
10 11 bool bool = bool
12 13 14 15 int int = bool
12 13 14 15 real real = bool
12 13 14 15 text text = bool
16 17 bool bool = bool
18 19 20 comp = real
21 real real = comp
22 int = real
23 text = int
24 text int = int
25 text text = text
26 int = text
`

var typeNames = []string{api.Int: "int", api.Real: "real", api.Comp: "comp", api.Text: "text", api.Bool: "bool"}

// row is a line of the table for one kind of node; b is 0 where there is one child.
type row struct{ kind, a, b, is int }

var table = readTable()

func readTable() []row {
	var all []row
	for _, line := range strings.Split(strings.TrimSpace(tableText), "\n") {
		var numbers, sides []int
		left, right, _ := strings.Cut(line, " = ")
		for _, word := range strings.Fields(left) {
			if k := slices.Index(typeNames, word); k > 0 {
				sides = append(sides, k)
				continue
			}
			n := 0
			for _, c := range word {
				n = 10*n + int(c-'0')
			}
			numbers = append(numbers, n)
		}
		sides = append(sides, 0)
		for _, n := range numbers {
			all = append(all, row{n, sides[0], sides[1], slices.Index(typeNames, right)})
		}
	}
	return all
}

// tableOf is what the table says of a kind of node and its children's types; 0, if it has no such row.
func tableOf(kind, a, b int) int {
	for _, r := range table {
		if r.kind == kind && r.a == a && r.b == b {
			return r.is
		}
	}
	return 0
}

// hasTwo tells how many children the table gives a kind of node.
func hasTwo(kind int) bool {
	return slices.ContainsFunc(table, func(r row) bool { return r.kind == kind && r.b != 0 })
}

// referenceGiven is the types that are given of a name, of which the first counts.
func referenceGiven(name string, vars []api.Field) []int {
	var l []int
	for _, v := range vars {
		if v.Name == name && v.Kind > 0 && v.Kind < len(typeNames) {
			l = append(l, v.Kind)
		}
	}
	return l
}

// referenceOf is the type of a node; 0, if it or one of its nodes has none.
func referenceOf(nodes []api.Node, i int, vars []api.Field) int {
	n := nodes[i]
	switch n.Kind {
	case api.NodeValue:
		return n.Value.Kind
	case api.NodeVar:
		if l := referenceGiven(n.Name, vars); len(l) > 0 {
			return l[0]
		}
		return 0
	}
	b := 0
	if hasTwo(n.Kind) {
		if b = referenceOf(nodes, n.B, vars); b == 0 {
			return 0
		}
	}
	return tableOf(n.Kind, referenceOf(nodes, n.A, vars), b)
}

// reference is the types of all nodes, or the first wrong place and its error.
func reference(e api.Expr, vars []api.Field) ([]int, int, api.Errno) {
	if fault := expr.May(e); fault != api.OK {
		return nil, 0, fault
	}
	var l []int
	for i, n := range e.Nodes {
		k := referenceOf(e.Nodes, i, vars)
		switch {
		case n.Kind == api.NodeVar && k == 0:
			return nil, i, api.ErrName
		case k == 0:
			return nil, i, api.ErrType
		}
		l = append(l, k)
	}
	return l, 0, api.OK
}
