package eval_test

import (
	"math/rand"
	"strings"
	"sync"
	"testing"

	"chordmail/api"
)

// row is a kind of node with the types of its children and its own; b is 0 where there is one child.
type row struct{ kind, a, b, is int }

func table() []row {
	l := []row{
		{api.NodeNot, api.Bool, 0, api.Bool}, {api.NodeRem, api.Int, api.Int, api.Int}, {api.NodeAnd, api.Bool, api.Bool, api.Bool}, {api.NodeOr, api.Bool, api.Bool, api.Bool}, {api.NodeAnd, api.Bool, api.Bool, api.Bool}, {api.NodeOr, api.Bool, api.Bool, api.Bool},
		{api.NodeRe, api.Comp, 0, api.Real}, {api.NodeIm, api.Comp, 0, api.Real}, {api.NodeSize, api.Comp, 0, api.Real}, {api.NodeComp, api.Real, api.Real, api.Comp}, {api.NodeReal, api.Int, 0, api.Real},
		{api.NodeLen, api.Text, 0, api.Int}, {api.NodeAt, api.Text, api.Int, api.Int}, {api.NodeCat, api.Text, api.Text, api.Text}, {api.NodeCat, api.Text, api.Text, api.Text}, {api.NodeStr, api.Int, 0, api.Text},
		{api.NodeDiv, api.Int, api.Int, api.Int}, {api.NodeDiv, api.Real, api.Real, api.Real},
	}
	for _, kind := range []int{api.Int, api.Real, api.Comp} {
		l = append(l, row{api.NodeNeg, kind, 0, kind}, row{api.NodeAdd, kind, kind, kind}, row{api.NodeSub, kind, kind, kind}, row{api.NodeMul, kind, kind, kind})
	}
	for kind := api.Int; kind <= api.Bool; kind++ {
		l = append(l, row{api.NodeEq, kind, kind, api.Bool}, row{api.NodeNe, kind, kind, api.Bool})
	}
	for _, kind := range []int{api.Int, api.Real, api.Text} {
		for op := api.NodeLt; op <= api.NodeGe; op++ {
			l = append(l, row{op, kind, kind, api.Bool})
		}
	}
	return l
}

// maker draws expressions most of whose nodes have types.
type maker struct {
	draw  *rand.Rand
	rows  []row
	nodes []api.Node
}

// make lists nodes of a type, or now and then of another one, and answers the last one's number.
func (k *maker) make(kind, depth int) int {
	if k.draw.Intn(200) == 0 {
		kind = 1 + k.draw.Intn(5)
	}
	if depth == 0 || k.draw.Intn(4) == 0 {
		return k.leaf(kind)
	}
	var fit []row
	for _, r := range k.rows {
		if r.is == kind {
			fit = append(fit, r)
		}
	}
	r := fit[k.draw.Intn(len(fit))]
	n := one(r.kind, k.make(r.a, depth-1))
	if r.b != 0 {
		n.B = k.make(r.b, depth-1)
	}
	k.nodes = append(k.nodes, n)
	return len(k.nodes) - 1
}

// names has two variables of each type.
var names = []string{"n", "k", "x", "y", "z", "w", "t", "s", "b", "c"}

func (k *maker) leaf(kind int) int {
	n := called(names[2*(kind-1)+k.draw.Intn(2)])
	v := []api.Value{whole(int64(k.draw.Intn(4))), scaled(float64(k.draw.Intn(3))), {}, said("ab"[:k.draw.Intn(3)]), truth(k.draw.Intn(2) == 0)}[kind-1]
	switch {
	case k.draw.Intn(300) == 0:
		n = called("q")
	case k.draw.Intn(3) == 0 && v.Kind != 0:
		n = leaf(v)
	}
	k.nodes = append(k.nodes, n)
	return len(k.nodes) - 1
}

// binds draws what the variables are given, with what may not be, other names and later values among them.
func (k *maker) binds() []api.Bind {
	texts := []string{"", "a", "ab", "\x00", "\xff\x00", strings.Repeat("long", 40)}
	var l []api.Bind
	for i, name := range append(names, names...) {
		if k.draw.Intn(12) == 0 {
			l = append(l, bind(name, api.Value{Kind: k.draw.Intn(12) * 6, Int: 5}), bind(name, api.Value{Kind: api.Bool, Int: 7}))
		}
		n := int64(k.draw.Intn(9) - 4)
		if k.draw.Intn(3) == 0 {
			n = edges()[k.draw.Intn(len(edges()))]
		}
		x, y := float64(k.draw.Intn(9)-4)/2, reals()[k.draw.Intn(len(reals()))]
		if k.draw.Intn(2) == 0 {
			x, y = y, x
		}
		v := api.Value{Int: n, Real: x, Comp: complex(x, y), Text: texts[k.draw.Intn(len(texts))]}
		v.Kind = 1 + i%10/2
		if v.Kind == api.Bool {
			v.Int &= 1
		}
		l = append(l, bind(name, v))
	}
	return l
}

// tried is an expression and what its variables are given.
type tried struct {
	e     api.Expr
	binds []api.Bind
}

// drawn are expressions of all sizes, too long and too deep ones among them.
func drawn(seed int64, n int) []tried {
	var l []tried
	rows := table()
	for i := range n {
		k := maker{draw: rand.New(rand.NewSource(seed + int64(i))), rows: rows}
		k.make([]int{api.Bool, api.Int, api.Bool, api.Real, api.Bool, api.Comp, api.Text}[i%7], 1+i%9)
		l = append(l, tried{api.Expr{Nodes: k.nodes}, k.binds()})
	}
	return l
}

// P7.1 to P7.5, P7.7: many expressions, held against the reference.
func TestDrawn(t *testing.T) {
	counts := map[api.Errno]int{}
	for _, c := range drawn(1, 9000) {
		_, fault := hold(t, c.e, c.binds)
		counts[fault]++
		if t.Failed() {
			t.FailNow()
		}
	}
	for fault, wanted := range map[api.Errno]int{api.OK: 4000, api.ErrType: 100, api.ErrName: 100, api.ErrNodes: 100, api.ErrOver: 50, api.ErrZero: 100, api.ErrPlace: 100, api.ErrText: 50} {
		if counts[fault] < wanted {
			complain(t, "%d of error %v; want %d", counts[fault], fault, wanted)
		}
	}
}

// P7.8: calls beside one another answer what each would answer alone.
func TestBeside(t *testing.T) {
	l := drawn(400000, 300)
	var group sync.WaitGroup
	for range 8 {
		group.Go(func() {
			for _, c := range l {
				if hold(t, c.e, c.binds); t.Failed() {
					return
				}
			}
		})
	}
	group.Wait()
}
