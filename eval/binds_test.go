package eval_test

import (
	"math"
	"slices"
	"strings"
	"testing"

	"chordmail/api"
	"chordmail/eval"
	"chordmail/value"
)

// mayNot are values that may not be.
func mayNot() []api.Value {
	return []api.Value{{}, {Int: 5}, {Kind: 6, Int: 5}, {Kind: -1, Int: 1, Text: "a"}, {Kind: math.MaxInt}, {Kind: 1<<32 + 1, Int: 5}, {Kind: api.Bool, Int: 2}, {Kind: api.Bool, Int: -1}, {Kind: api.Bool, Int: m}, said(strings.Repeat("x", 257)), said(strings.Repeat("x", 100000))}
}

// oneOfEach are values of each type.
func oneOfEach() []api.Value {
	return []api.Value{whole(5), whole(m), scaled(1.5), scaled(minus0), scaled(none), pair(3, minus0), pair(none, infinite), said(""), said("\x00\xff"), said(strings.Repeat("x", 256)), truth(false), truth(true)}
}

// isNone tells whether a plain value is no number, in either part.
func isNone(v api.Value) bool {
	return math.IsNaN(v.Real) || math.IsNaN(real(v.Comp)) || math.IsNaN(imag(v.Comp))
}

// P7.1: each value that may be is what its name is given, plain; of one that may not be it is as if it were not there.
func TestGiven(t *testing.T) {
	for _, v := range oneOfEach() {
		want(t, "v", []api.Bind{bind("v", v)}, v)
		want(t, "v == v", []api.Bind{bind("v", v)}, truth(!isNone(v)))
	}
	for _, v := range mayNot() {
		wantFault(t, "v", []api.Bind{bind("v", v)}, api.ErrName)
		wantFault(t, "1 / 0 + v", []api.Bind{bind("v", v)}, api.ErrName)
		want(t, "1 + 1", []api.Bind{bind("v", v)}, whole(2))
	}
	for _, binds := range [][]api.Bind{nil, {}, {bind("w", whole(1))}, {bind("", whole(1))}, {bind("V", whole(1)), bind("vv", whole(1)), bind("v ", whole(1)), bind("v\x00", whole(1))}} {
		wantFault(t, "v", binds, api.ErrName)
		want(t, "1 + 1", binds, whole(2))
	}
	long := strings.Repeat("v", 32)
	want(t, long, []api.Bind{bind(long+"v", whole(1)), bind(long[1:], whole(2)), bind(long, whole(3))}, whole(3))
	want(t, "self * 2", []api.Bind{bind("self", whole(4))}, whole(8))
}

// P7.1, P7.7: other fields than the kind's are not looked at, and zero in what is answered; what is no number is one.
func TestPlain(t *testing.T) {
	for _, v := range oneOfEach() {
		filled := api.Value{Kind: v.Kind, Int: 99, Real: none, Comp: complex(minus0, infinite), Text: strings.Repeat("y", 300)}
		switch v.Kind {
		case api.Int, api.Bool:
			filled.Int = v.Int
		case api.Real:
			filled.Real = v.Real
		case api.Comp:
			filled.Comp = v.Comp
		case api.Text:
			filled.Text = v.Text
		}
		want(t, "v", []api.Bind{bind("v", filled)}, v)
		want(t, "v", []api.Bind{bind("v", filled), bind("v", whole(1))}, v)
		want(t, "v == v", []api.Bind{bind("v", filled)}, truth(!isNone(v)))
	}
	odd := math.Float64frombits(0xfff8000000000abc)
	for _, text := range []string{"a", "-a", "a + 1p0", "a * a", "1p0 / a", "re(comp(a, a))", "size2(comp(1p0, a))"} {
		want(t, text, sides(scaled(odd), whole(0)), scaled(none))
	}
	want(t, "comp(a, -a)", sides(scaled(odd), whole(0)), pair(none, none))
	want(t, "a", sides(pair(odd, 1), whole(0)), pair(none, 1))
	want(t, "-a", sides(pair(odd, 1), whole(0)), pair(none, -1))
}

// P7.1: of a name that stands several times the first counts whose value may be.
func TestGivenTwice(t *testing.T) {
	for _, a := range oneOfEach() {
		for _, b := range oneOfEach() {
			want(t, "v", []api.Bind{bind("v", a), bind("v", b)}, a)
			want(t, "v", []api.Bind{bind("w", b), bind("v", a), bind("w", a), bind("v", b), bind("v", b)}, a)
		}
		for _, none := range mayNot() {
			want(t, "v", []api.Bind{bind("v", none), bind("v", a)}, a)
			want(t, "v", []api.Bind{bind("v", a), bind("v", none)}, a)
			want(t, "v", []api.Bind{bind("v", none), bind("w", whole(1)), bind("v", none), bind("v", a), bind("v", whole(77)), bind("v", none)}, a)
		}
	}
	for _, none := range mayNot() {
		for _, other := range mayNot() {
			wantFault(t, "v", []api.Bind{bind("v", none), bind("v", other)}, api.ErrName)
			wantFault(t, "w + v", []api.Bind{bind("v", none), bind("w", whole(1)), bind("v", other)}, api.ErrName)
		}
	}
	want(t, "v + v * (v - 1)", []api.Bind{bind("v", whole(5)), bind("v", said("a")), bind("v", whole(6))}, whole(25))
	wantFault(t, "v + v * (v - 1)", []api.Bind{bind("v", said("a")), bind("v", whole(5))}, api.ErrType)
	want(t, "cat(v, cat(v, v))", []api.Bind{bind("v", said("ab"))}, said("ababab"))
}

// P7.1 to P7.4: names that the expression does not use, and names that are none, change nothing.
func TestOtherNames(t *testing.T) {
	others := []api.Bind{bind("", whole(1)), bind("true", whole(0)), bind("false", truth(true)), bind("len", said("x")), bind("1", whole(2)), bind("n + x", whole(3)), bind("\xff\x00", scaled(1)), bind(strings.Repeat("n", 100000), pair(1, 1)), bind("N", whole(9)), bind("n_", api.Value{Kind: 77}), bind("_", said(strings.Repeat("x", 300))), bind("a", scaled(none))}
	for _, text := range []string{"n + len(t)", "true", "false || b", "n", "1 + 1", "n / 0", "q", "n + x", "b || 1 / 0 == 1", "at(t, n)", `len("n + x")`} {
		e := parsed(t, text)
		wanted, wrong := eval.Steps(e, some())
		for k := range len(some()) + 1 {
			mixed := slices.Concat(some()[:k], others, some()[k:])
			hold(t, e, mixed)
			if l, fault := eval.Steps(e, mixed); !alikeSteps(l, wanted) || fault != wrong {
				complain(t, "Steps of %q with other names: %v, %v; want %v, %v", text, l, fault, wanted, wrong)
			}
		}
		turned := some()
		slices.Reverse(turned)
		if l, fault := eval.Steps(e, turned); !alikeSteps(l, wanted) || fault != wrong {
			complain(t, "Steps of %q, the binds turned round: %v, %v; want %v, %v", text, l, fault, wanted, wrong)
		}
	}
	want(t, "true", others, truth(true))
	want(t, "false", others, truth(false))
}

// P7.7: a text that is answered may be, whatever it was made of.
func TestLongTexts(t *testing.T) {
	for n := range 300 {
		binds := []api.Bind{bind("t", said(strings.Repeat("x", n)))}
		for _, text := range []string{"t", "cat(t, \"\")", "cat(\"y\", t)", "cat(t, t)", "cat(cat(t, t), t)"} {
			if v, fault := hold(t, parsed(t, text), binds); fault == api.OK && !value.May(v) {
				complain(t, "Eval of %q: %v", text, v)
			}
		}
	}
}
