package eval

import (
	"chordmail/api"
	"chordmail/types"
	"chordmail/value"
)

// given is what variables are given: of each name its type and its value.
type given struct {
	fields []api.Field
	values map[string]api.Value
}

// givenBy goes by the first value of each name that may be.
func givenBy(binds []api.Bind) given {
	g := given{values: map[string]api.Value{}}
	for _, b := range binds {
		if _, has := g.values[b.Name]; has || !value.May(b.Value) {
			continue
		}
		g.fields = append(g.fields, api.Field{Name: b.Name, Kind: b.Value.Kind})
		g.values[b.Name] = b.Value
	}
	return g
}

// eval answers what an expression comes to: the last step says it, be that the whole's or an error's.
func (g given) eval(e api.Expr) (api.Value, api.Errno) {
	l, fault := g.steps(e)
	if fault != api.OK {
		return api.Value{}, fault
	}
	last := l[len(l)-1]
	return last.Value, last.Err
}

// refusal is what a walk is given up with: the step of the node that is an error.
type refusal struct {
	last Step
}

// steps answers a step of each node that is looked at, or the error of an expression that has no type.
func (g given) steps(e api.Expr) (l []Step, fault api.Errno) {
	if _, fault := types.Of(e, g.fields); fault != api.OK {
		return nil, fault
	}
	w := walk{nodes: e.Nodes, values: g.values}
	defer func() {
		if p := recover(); p != nil {
			gaveUp := p.(refusal) // no other panic is meant for the face: it goes on
			l = append(w.steps, gaveUp.last)
		}
	}()
	w.look(len(e.Nodes) - 1)
	return w.steps, api.OK
}

// walk goes over the nodes of an expression that has a type, and lists its steps.
type walk struct {
	nodes  []api.Node
	values map[string]api.Value
	steps  []Step
}

// look answers what a node comes to; its children are looked at ahead of it.
func (w *walk) look(i int) api.Value {
	n := w.nodes[i]
	switch n.Kind {
	case api.NodeValue:
		return w.step(i, n.Value)
	case api.NodeVar:
		return w.step(i, w.values[n.Name])
	case api.NodeAnd, api.NodeOr:
		return w.step(i, w.decided(n))
	case api.NodeNeg, api.NodeNot, api.NodeRe, api.NodeIm, api.NodeSize, api.NodeReal, api.NodeLen, api.NodeStr:
		v, fault := ofOne(n.Kind, w.look(n.A))
		return w.found(i, v, fault)
	}
	a := w.look(n.A)
	b := w.look(n.B)
	v, fault := ofTwo(n.Kind, a, b)
	return w.found(i, v, fault)
}

// decided answers the left side where it decides, so that the right one is not looked at; else the right one.
func (w *walk) decided(n api.Node) api.Value {
	if a := w.look(n.A); a == truth(n.Kind == api.NodeOr) {
		return a
	}
	return w.look(n.B)
}

// found lists what a node comes to, or gives the walk up where that is an error.
func (w *walk) found(i int, v api.Value, fault api.Errno) api.Value {
	if fault != api.OK {
		panic(refusal{Step{Node: i, Err: fault}})
	}
	return w.step(i, v)
}

// step lists a value, plain: so the step's text is memory of its own, whatever the value's was made of.
func (w *walk) step(i int, v api.Value) api.Value {
	v = value.Plain(v)
	w.steps = append(w.steps, Step{Node: i, Value: v})
	return v
}
