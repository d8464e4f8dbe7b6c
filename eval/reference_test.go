package eval_test

import (
	"bytes"
	"math"
	"math/big"
	"slices"

	"chordmail/api"
	"chordmail/eval"
	"chordmail/expr"
	"chordmail/types"
	"chordmail/value"
)

// The reference goes over the nodes by one loop, as they are listed, and leaves out the run of nodes that a decided side makes needless; it reckons with big numbers, which keep every bit, and rounds what comes out once.

func whole(n int64) api.Value { return api.Value{Kind: api.Int, Int: n} }

func scaled(x float64) api.Value { return api.Value{Kind: api.Real, Real: x} }

func pair(x, y float64) api.Value { return api.Value{Kind: api.Comp, Comp: complex(x, y)} }

func said(s string) api.Value { return api.Value{Kind: api.Text, Text: s} }

func truth(is bool) api.Value {
	v := api.Value{Kind: api.Bool}
	if is {
		v.Int = 1
	}
	return v
}

var (
	infinite = math.Inf(1)
	none     = math.NaN()
	minus0   = math.Copysign(0, -1)
)

const (
	m        = math.MinInt64
	greatest = math.MaxInt64
	least    = math.SmallestNonzeroFloat64
)

// given is the first value of a name that may be.
func given(name string, binds []api.Bind) (api.Value, bool) {
	i := slices.IndexFunc(binds, func(b api.Bind) bool { return b.Name == name && value.May(b.Value) })
	if i < 0 {
		return api.Value{}, false
	}
	return value.Plain(binds[i].Value), true
}

// fieldsOf are the types of an expression's own variables.
func fieldsOf(e api.Expr, binds []api.Bind) []api.Field {
	var l []api.Field
	for _, name := range expr.Vars(e) {
		if v, has := given(name, binds); has {
			l = append(l, api.Field{Name: name, Kind: v.Kind})
		}
	}
	return l
}

// hasTwo tells which kinds of nodes have two children.
func hasTwo(kind int) bool {
	return kind >= api.NodeAdd && kind <= api.NodeOr || kind == api.NodeComp || kind == api.NodeAt || kind == api.NodeCat
}

// firstOf is where the nodes of a node begin.
func firstOf(nodes []api.Node, i int) int {
	for nodes[i].Kind != api.NodeValue && nodes[i].Kind != api.NodeVar {
		i = nodes[i].A
	}
	return i
}

// reference answers what Steps should.
func reference(e api.Expr, binds []api.Bind) ([]eval.Step, api.Errno) {
	if _, fault := types.Of(e, fieldsOf(e, binds)); fault != api.OK {
		return nil, fault
	}
	var l []eval.Step
	come := make([]api.Value, len(e.Nodes))
	for i := 0; i < len(e.Nodes); i++ {
		v, fault := referenceNode(e.Nodes[i], come, binds)
		l = append(l, eval.Step{Node: i, Value: v, Err: fault})
		if fault != api.OK {
			return l, api.OK
		}
		come[i] = v
		// Where the node is a left side that decides, the next one that is looked at stands behind the right side.
		for k, n := range e.Nodes {
			if (n.Kind == api.NodeAnd && v == truth(false) || n.Kind == api.NodeOr && v == truth(true)) && n.A == i {
				i = k - 1
				come[k-1] = v
				break
			}
		}
	}
	return l, api.OK
}

func referenceNode(n api.Node, come []api.Value, binds []api.Bind) (api.Value, api.Errno) {
	switch n.Kind {
	case api.NodeValue:
		return n.Value, api.OK
	case api.NodeVar:
		v, _ := given(n.Name, binds)
		return v, api.OK
	case api.NodeAnd, api.NodeOr: // the right side's: where it is left out, the left one's stands there
		return come[n.B], api.OK
	}
	a, b := come[n.A], come[n.B]
	if !hasTwo(n.Kind) {
		return referenceOne(n.Kind, a)
	}
	if n.Kind >= api.NodeEq && n.Kind <= api.NodeGe {
		return truth(compared(n.Kind, a, b)), api.OK
	}
	switch a.Kind {
	case api.Int:
		return referenceInts(n.Kind, a.Int, b.Int)
	case api.Comp:
		return referenceComps(n.Kind, a.Comp, b.Comp), api.OK
	case api.Text:
		return referenceTexts(n.Kind, []byte(a.Text), b)
	}
	if n.Kind == api.NodeComp {
		return value.Plain(pair(a.Real, b.Real)), api.OK
	}
	return value.Plain(scaled(reckoned(n.Kind, a.Real, b.Real))), api.OK
}

func referenceOne(kind int, a api.Value) (api.Value, api.Errno) {
	z := a.Comp
	switch kind {
	case api.NodeNeg:
		if a.Kind == api.Int {
			return referenceInts(api.NodeSub, 0, a.Int)
		}
		return value.Plain(api.Value{Kind: a.Kind, Real: opposite(a.Real), Comp: complex(opposite(real(z)), opposite(imag(z)))}), api.OK
	case api.NodeNot:
		return truth(a.Int == 0), api.OK
	case api.NodeRe:
		return value.Plain(scaled(real(z))), api.OK
	case api.NodeIm:
		return value.Plain(scaled(imag(z))), api.OK
	case api.NodeSize:
		return value.Plain(scaled(sumOf(productOf(real(z), real(z)), productOf(imag(z), imag(z))))), api.OK
	case api.NodeReal:
		return scaled(rounded(new(big.Float).SetInt64(a.Int))), api.OK
	case api.NodeLen:
		return whole(int64(len([]byte(a.Text)))), api.OK
	}
	return said(big.NewInt(a.Int).String()), api.OK
}

func referenceInts(kind int, a, b int64) (api.Value, api.Errno) {
	x, y := big.NewInt(a), big.NewInt(b)
	if b == 0 && (kind == api.NodeDiv || kind == api.NodeRem) {
		return api.Value{}, api.ErrZero
	}
	switch kind {
	case api.NodeAdd:
		x.Add(x, y)
	case api.NodeSub:
		x.Sub(x, y)
	case api.NodeMul:
		x.Mul(x, y)
	case api.NodeDiv:
		x.Quo(x, y)
	case api.NodeRem:
		x.Rem(x, y)
	}
	if !x.IsInt64() {
		return api.Value{}, api.ErrOver
	}
	return whole(x.Int64()), api.OK
}

func referenceComps(kind int, a, b complex128) api.Value {
	x, y, u, v := real(a), imag(a), real(b), imag(b)
	if kind == api.NodeMul {
		return value.Plain(pair(sumOf(productOf(x, u), opposite(productOf(y, v))), sumOf(productOf(x, v), productOf(y, u))))
	}
	return value.Plain(pair(reckoned(kind, x, u), reckoned(kind, y, v)))
}

func referenceTexts(kind int, a []byte, b api.Value) (api.Value, api.Errno) {
	if kind == api.NodeCat {
		all := append(a, b.Text...)
		if len(all) > 256 {
			return api.Value{}, api.ErrText
		}
		return said(string(all)), api.OK
	}
	for i, c := range a {
		if int64(i) == b.Int {
			return whole(int64(c)), api.OK
		}
	}
	return api.Value{}, api.ErrPlace
}

// compared asks for the order alone: of two that are in none, and of noughts, it knows by big numbers.
func compared(kind int, a, b api.Value) bool {
	order := 0
	switch a.Kind {
	case api.Real:
		if math.IsNaN(a.Real) || math.IsNaN(b.Real) {
			return kind == api.NodeNe
		}
		order = bigOf(a.Real).Cmp(bigOf(b.Real))
	case api.Comp:
		re := compared(api.NodeEq, scaled(real(a.Comp)), scaled(real(b.Comp)))
		im := compared(api.NodeEq, scaled(imag(a.Comp)), scaled(imag(b.Comp)))
		return (re && im) == (kind == api.NodeEq)
	case api.Text:
		order = bytes.Compare([]byte(a.Text), []byte(b.Text))
	default:
		order = big.NewInt(a.Int).Cmp(big.NewInt(b.Int))
	}
	return map[int]bool{api.NodeEq: order == 0, api.NodeNe: order != 0, api.NodeLt: order < 0, api.NodeLe: order <= 0, api.NodeGt: order > 0, api.NodeGe: order >= 0}[kind]
}

// allBits hold each sum and each product of two reals.
const allBits = 2200

// opposite changes the sign's bit alone.
func opposite(x float64) float64 { return math.Float64frombits(math.Float64bits(x) ^ 1<<63) }

func bigOf(x float64) *big.Float { return new(big.Float).SetPrec(allBits).SetFloat64(x) }

func rounded(exact *big.Float) float64 {
	f, _ := exact.Float64()
	return f
}

// reckoned is what + - * / of reals come to.
func reckoned(kind int, x, y float64) float64 {
	switch kind {
	case api.NodeAdd:
		return sumOf(x, y)
	case api.NodeSub:
		return sumOf(x, opposite(y))
	case api.NodeMul:
		return productOf(x, y)
	}
	return quotientOf(x, y)
}

// signed gives a size the sign of a product, or of a quotient.
func signed(size, x, y float64) float64 {
	if math.Signbit(x) != math.Signbit(y) {
		return opposite(size)
	}
	return size
}

func sumOf(x, y float64) float64 {
	switch {
	case math.IsNaN(x) || math.IsNaN(y) || math.IsInf(x, 0) && math.IsInf(y, 0) && x != y:
		return none
	case math.IsInf(x, 0):
		return x
	case math.IsInf(y, 0):
		return y
	}
	exact := bigOf(x)
	return rounded(exact.Add(exact, bigOf(y)))
}

func productOf(x, y float64) float64 {
	switch {
	case math.IsNaN(x) || math.IsNaN(y) || math.IsInf(x, 0) && y == 0 || x == 0 && math.IsInf(y, 0):
		return none
	case math.IsInf(x, 0) || math.IsInf(y, 0):
		return signed(infinite, x, y)
	}
	exact := bigOf(x)
	return rounded(exact.Mul(exact, bigOf(y)))
}

func quotientOf(x, y float64) float64 {
	switch {
	case math.IsNaN(x) || math.IsNaN(y) || math.IsInf(x, 0) && math.IsInf(y, 0) || x == 0 && y == 0:
		return none
	case math.IsInf(x, 0) || y == 0:
		return signed(infinite, x, y)
	case math.IsInf(y, 0) || x == 0:
		return signed(0, x, y)
	}
	exact := new(big.Rat).SetFloat64(x)
	f, _ := exact.Quo(exact, new(big.Rat).SetFloat64(y)).Float64()
	return f
}
