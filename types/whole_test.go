package types_test

import (
	"slices"
	"sync"
	"testing"

	"chordmail/api"
	"chordmail/types"
)

const longText = `at(cat(t, "a"), n) < len(t) && re(z) * x != 1p0 || !b`

var longKinds = []int{4, 4, 4, 1, 1, 4, 1, 5, 3, 2, 2, 2, 2, 5, 5, 5, 5, 5}

// ask makes each of the four calls.
func ask(e api.Expr, vars []api.Field) {
	types.Where(e, vars)
	types.Of(e, vars)
	types.Is(e, vars, api.Bool)
	types.Types(e, vars)
}

// P6.6: the lists that are handed in stay as they were, with the room behind them.
func TestHandedIn(t *testing.T) {
	for _, text := range []string{longText, "n + x", "q", "-t", "z"} {
		nodes := append(slices.Clone(parsed(t, text).Nodes), called("r"), whole(1), one(api.NodeNeg, 0))
		vars := append(slices.Clone(some), field("r", 3), field("n", 4), field("", -1))
		keptNodes, keptVars := slices.Clone(nodes), slices.Clone(vars)
		ask(api.Expr{Nodes: nodes[:len(nodes)-3]}, vars[:len(vars)-3])
		ask(api.Expr{Nodes: nodes}, vars)
		ask(api.Expr{Nodes: nodes[:0]}, vars[:0])
		if !slices.Equal(nodes, keptNodes) || !slices.Equal(vars, keptVars) {
			t.Errorf("%q: what was handed in is changed: %v, %v", text, nodes, vars)
		}
	}
}

// P6.6: what stands behind a list, in its room, is not looked at.
func TestRoomBehind(t *testing.T) {
	vars := append(slices.Clone(some), field("q", api.Int))
	wantWrong(t, parsed(t, "q"), vars[:len(some)], 0, api.ErrName)
	nodes := append(parsed(t, "n").Nodes, called("q"), two(api.NodeAdd, 0, 1))
	wantKinds(t, api.Expr{Nodes: nodes[:1]}, some, api.Int)
}

// P6.6: nothing of what is handed in is kept, and each answer is memory of its own, the room behind it too.
func TestNewMemory(t *testing.T) {
	e := parsed(t, longText)
	vars := slices.Clone(some)
	a, _ := types.Types(e, vars)
	b, fault := types.Types(e, vars)
	behind := append(b, 77)
	clear(a[:cap(a)])
	if fault != api.OK || !slices.Equal(b, longKinds) || !slices.Equal(behind, append(slices.Clone(longKinds), 77)) {
		t.Errorf("an answer changes with another: %v, %v", b, fault)
	}
	wantKinds(t, e, vars, longKinds...)
	c, _ := types.Types(e, vars)
	again := parsed(t, longText)
	clear(e.Nodes)
	clear(vars)
	if !slices.Equal(c, longKinds) {
		t.Errorf("an answer changes with what was handed in: %v", c)
	}
	wantWrong(t, again, vars, 0, api.ErrName)
	wantWrong(t, e, some, 0, api.ErrExpr)
	wantKinds(t, again, some, longKinds...)
}

// P6.6: calls behind one another and beside one another answer what each would answer alone.
func TestBeside(t *testing.T) {
	wanted := parsed(t, longText)
	l := drawn(400000, 400)
	var group sync.WaitGroup
	for range 8 {
		group.Go(func() {
			for _, e := range l {
				wantReference(t, e, some)
				wantKinds(t, wanted, some, longKinds...)
			}
		})
	}
	group.Wait()
}
