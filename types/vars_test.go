package types_test

import (
	"math"
	"math/rand"
	"slices"
	"strings"
	"testing"

	"chordmail/api"
	"chordmail/expr"
	"chordmail/types"
)

func field(name string, kind int) api.Field { return api.Field{Name: name, Kind: kind} }

// noTypes are numbers that are none of the five types.
var noTypes = []int{0, -1, -5, 6, 7, 9, 1 << 32, 1<<32 + 1, math.MinInt, math.MaxInt, math.MinInt + 1}

// P6.1, P6.2: each type may be given of a name; a number that is none is as if nothing were given.
func TestGiven(t *testing.T) {
	e := parsed(t, "v")
	for kind := api.Int; kind <= api.Bool; kind++ {
		wantKinds(t, e, []api.Field{field("v", kind)}, kind)
		wantKinds(t, parsed(t, "v == v"), []api.Field{field("v", kind)}, kind, kind, api.Bool)
	}
	for _, kind := range noTypes {
		wantWrong(t, e, []api.Field{field("v", kind)}, 0, api.ErrName)
		wantWrong(t, parsed(t, "1 + v"), []api.Field{field("v", kind)}, 1, api.ErrName)
	}
	for _, vars := range [][]api.Field{nil, {}, {field("w", api.Int)}, {field("", api.Int)}, {field("V", api.Int), field("vv", api.Int), field("v ", api.Int), field("v\x00", api.Int)}} {
		wantWrong(t, e, vars, 0, api.ErrName)
		wantWrong(t, parsed(t, "1 + 1 + v"), vars, 3, api.ErrName)
		wantKinds(t, parsed(t, "1 + 1"), vars, api.Int, api.Int, api.Int)
	}
	long := strings.Repeat("n", 32)
	wantKinds(t, parsed(t, long), []api.Field{field(long+"n", api.Int), field(long[1:], api.Int), field(long, api.Text)}, api.Text)
	wantKinds(t, parsed(t, "self"), []api.Field{field("self", api.Int)}, api.Int)
}

// P6.1, P6.2: of a name that stands several times the first counts whose Kind is a type.
func TestGivenTwice(t *testing.T) {
	e := parsed(t, "v")
	for a := api.Int; a <= api.Bool; a++ {
		for b := api.Int; b <= api.Bool; b++ {
			wantKinds(t, e, []api.Field{field("v", a), field("v", b)}, a)
			wantKinds(t, e, []api.Field{field("w", b), field("v", a), field("w", a), field("v", b)}, a)
		}
		for _, none := range noTypes {
			wantKinds(t, e, []api.Field{field("v", none), field("v", a)}, a)
			wantKinds(t, e, []api.Field{field("v", a), field("v", none)}, a)
			wantKinds(t, e, []api.Field{field("v", none), field("w", api.Int), field("v", 6), field("v", a), field("v", 0), field("v", 1+a%5)}, a)
		}
	}
	for _, none := range noTypes {
		for _, other := range noTypes {
			wantWrong(t, e, []api.Field{field("v", none), field("v", other)}, 0, api.ErrName)
			wantWrong(t, parsed(t, "w + v"), []api.Field{field("v", none), field("w", api.Int), field("v", other)}, 1, api.ErrName)
		}
	}
}

// P6.1 to P6.4: a variable that stands several times has one type.
func TestSameVariable(t *testing.T) {
	e := parsed(t, "v + v * (v - v)")
	for _, kind := range []int{api.Int, api.Real, api.Comp} {
		wantKinds(t, e, []api.Field{field("v", kind), field("v", api.Text)}, repeated(kind, 7)...)
	}
	for _, kind := range []int{api.Text, api.Bool} {
		wantWrong(t, e, []api.Field{field("v", kind), field("v", api.Int)}, 4, api.ErrType)
	}
	wantWrong(t, e, []api.Field{field("w", api.Int)}, 0, api.ErrName)
	wantWrong(t, parsed(t, "at(v, v)"), []api.Field{field("v", api.Text), field("v", api.Int)}, 2, api.ErrType)
}

// P6.5: names that the expression does not use, names that are none, and what a reserved word is said to be, change nothing.
func TestOtherNames(t *testing.T) {
	others := []api.Field{field("", api.Text), field("true", api.Int), field("len", api.Text), field("1", api.Bool), field("v w", api.Bool), field("\xff\x00", api.Real), field(strings.Repeat("v", 100000), api.Comp), field("a", api.Real), field("_", 5), field("v_", 77), field("V", -1), field("vw", api.Text)}
	for _, text := range []string{"v + len(w)", "true", "v", "1 < v && true", "v + w", "u", `w == "v w"`} {
		e := parsed(t, text)
		own := []api.Field{field("v", api.Int), field("w", api.Text)}
		fault := wantReference(t, e, own)
		for k := range len(own) + 1 {
			mixed := slices.Concat(own[:k], others, own[k:])
			if other := wantReference(t, e, mixed); other != fault {
				t.Errorf("%q with other names: %v; without %v", text, other, fault)
			}
		}
	}
	wantKinds(t, parsed(t, "true"), others, api.Bool)
	wantKinds(t, parsed(t, "len(\"\")"), others, api.Text, api.Int)
}

// all are the answers of the four calls.
type all struct {
	at, kind int
	faults   [9]api.Errno
	kinds    string
}

func answers(e api.Expr, vars []api.Field) all {
	var a all
	a.at, a.faults[0] = types.Where(e, vars)
	a.kind, a.faults[1] = types.Of(e, vars)
	l, fault := types.Types(e, vars)
	a.faults[2] = fault
	for kind := range 6 {
		a.faults[3+kind] = types.Is(e, vars, kind)
	}
	for _, k := range l {
		a.kinds += string(rune('0' + k))
	}
	return a
}

// P6.5: neither the order of unlike names nor what is said of others changes an answer.
func TestOrder(t *testing.T) {
	draw := rand.New(rand.NewSource(3))
	for _, e := range drawn(200000, 1500) {
		wanted := answers(e, some)
		turned := slices.Clone(some)
		slices.Reverse(turned)
		if got := answers(e, turned); got != wanted {
			t.Fatalf("%v, the variables turned round: %v; want %v", told(e), got, wanted)
		}
		mixed := append(turned, field("p", api.Int), field("Q", api.Bool), field("", 3), field("n1", -7), field("re", 2))
		draw.Shuffle(len(mixed), func(i, k int) { mixed[i], mixed[k] = mixed[k], mixed[i] })
		if got := answers(e, mixed); got != wanted {
			t.Fatalf("%v over %v: %v; want %v", told(e), mixed, got, wanted)
		}
		used := slices.DeleteFunc(slices.Clone(some), func(v api.Field) bool { return !slices.Contains(expr.Vars(e), v.Name) })
		if got := answers(e, used); got != wanted {
			t.Fatalf("%v over %v: %v; want %v", told(e), used, got, wanted)
		}
	}
}

// P6.5: an expression that has a type uses no variable that is not given: each that is taken away is missed where it first stands.
func TestUsed(t *testing.T) {
	tried := 0
	for _, e := range drawn(300000, 1500) {
		if _, fault := types.Of(e, some); fault != api.OK {
			continue
		}
		for _, name := range expr.Vars(e) {
			tried++
			if len(referenceGiven(name, some)) == 0 {
				t.Fatalf("%v has a type, and uses %q", told(e), name)
			}
			rest := slices.DeleteFunc(slices.Clone(some), func(v api.Field) bool { return v.Name == name })
			first := slices.IndexFunc(e.Nodes, func(n api.Node) bool { return n.Name == name })
			wantWrong(t, e, rest, first, api.ErrName)
		}
	}
	if tried < 500 {
		t.Errorf("just %d variables", tried)
	}
}
