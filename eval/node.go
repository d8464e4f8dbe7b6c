package eval

import (
	"strconv"

	"chordmail/api"
	"chordmail/checked"
	"chordmail/plane"
)

func whole(n int64) api.Value { return api.Value{Kind: api.Int, Int: n} }

func scaled(x float64) api.Value { return api.Value{Kind: api.Real, Real: x} }

func pair(z complex128) api.Value { return api.Value{Kind: api.Comp, Comp: z} }

func said(t string) api.Value { return api.Value{Kind: api.Text, Text: t} }

func truth(is bool) api.Value {
	if is {
		return api.Value{Kind: api.Bool, Int: 1}
	}
	return api.Value{Kind: api.Bool}
}

// ofOne answers what a node with one child comes to.
func ofOne(kind int, a api.Value) (api.Value, api.Errno) {
	switch kind {
	case api.NodeNeg:
		return opposite(a)
	case api.NodeNot:
		return truth(a == truth(false)), api.OK
	case api.NodeRe:
		return scaled(real(a.Comp)), api.OK
	case api.NodeIm:
		return scaled(imag(a.Comp)), api.OK
	case api.NodeSize:
		return scaled(plane.Size2(a.Comp)), api.OK
	case api.NodeReal:
		return scaled(float64(a.Int)), api.OK
	case api.NodeLen:
		return whole(int64(len(a.Text))), api.OK
	}
	return said(strconv.FormatInt(a.Int, 10)), api.OK
}

// opposite changes a real's sign, a nought's too, as 0 less it would not.
func opposite(a api.Value) (api.Value, api.Errno) {
	switch a.Kind {
	case api.Int:
		n, fault := checked.Neg(a.Int)
		return whole(n), fault
	case api.Real:
		return scaled(-a.Real), api.OK
	}
	return pair(complex(-real(a.Comp), -imag(a.Comp))), api.OK
}

// ofTwo answers what a node with two children comes to, both of which were looked at.
func ofTwo(kind int, a, b api.Value) (api.Value, api.Errno) {
	switch kind {
	case api.NodeEq:
		return truth(equal(a, b)), api.OK
	case api.NodeNe:
		return truth(!equal(a, b)), api.OK
	case api.NodeLt:
		return truth(below(a, b)), api.OK
	case api.NodeLe:
		return truth(below(a, b) || equal(a, b)), api.OK
	case api.NodeGt:
		return truth(below(b, a)), api.OK
	case api.NodeGe:
		return truth(below(b, a) || equal(a, b)), api.OK
	case api.NodeComp:
		return pair(complex(a.Real, b.Real)), api.OK
	case api.NodeAt:
		return byteAt(a.Text, b.Int)
	case api.NodeCat:
		return joined(a.Text, b.Text)
	}
	return reckoned(kind, a, b)
}

// equal is unlike value.Same: -0 equals 0, and what is no number equals nothing.
func equal(a, b api.Value) bool {
	switch a.Kind {
	case api.Real:
		return a.Real == b.Real
	case api.Comp:
		return plane.Equal(a.Comp, b.Comp)
	case api.Text:
		return a.Text == b.Text
	}
	return a.Int == b.Int
}

// below is unlike value.Compare: what is no number is in no order.
func below(a, b api.Value) bool {
	switch a.Kind {
	case api.Real:
		return a.Real < b.Real
	case api.Text:
		return a.Text < b.Text
	}
	return a.Int < b.Int
}

func byteAt(text string, place int64) (api.Value, api.Errno) {
	if place < 0 || place >= int64(len(text)) {
		return api.Value{}, api.ErrPlace
	}
	return whole(int64(text[place])), api.OK
}

func joined(a, b string) (api.Value, api.Errno) {
	if len(a)+len(b) > api.MaxText {
		return api.Value{}, api.ErrText
	}
	return said(a + b), api.OK
}

// reckoned answers what + - * / % come to, by the type of both sides.
func reckoned(kind int, a, b api.Value) (api.Value, api.Errno) {
	switch a.Kind {
	case api.Int:
		n, fault := ofInts(kind, a.Int, b.Int)
		return whole(n), fault
	case api.Real:
		return scaled(ofReals(kind, a.Real, b.Real)), api.OK
	}
	return pair(ofComps(kind, a.Comp, b.Comp)), api.OK
}

func ofInts(kind int, a, b int64) (int64, api.Errno) {
	switch kind {
	case api.NodeAdd:
		return checked.Add(a, b)
	case api.NodeSub:
		return checked.Sub(a, b)
	case api.NodeMul:
		return checked.Mul(a, b)
	case api.NodeDiv:
		return checked.Div(a, b)
	}
	return checked.Rem(a, b)
}

func ofReals(kind int, a, b float64) float64 {
	switch kind {
	case api.NodeAdd:
		return a + b
	case api.NodeSub:
		return a - b
	case api.NodeMul:
		return float64(a * b) // else it might be rounded at once with a sum that it stands in
	}
	return a / b
}

func ofComps(kind int, a, b complex128) complex128 {
	switch kind {
	case api.NodeAdd:
		return plane.Add(a, b)
	case api.NodeSub:
		return plane.Sub(a, b)
	}
	return plane.Mul(a, b)
}
