package plane_test

import (
	"math"
	"math/big"
	"math/rand"
	"testing"
)

// The reference reckons each operation with big numbers, which keep every bit, and rounds what comes out once: it shares no step with float64's own operations, and nothing in it can be rounded at once with something else.

// allBits hold each sum and each product of two reals.
const allBits = 2200

var (
	infinite = math.Inf(1)
	none     = math.NaN()
	minus0   = math.Copysign(0, -1)
)

const (
	greatest = math.MaxFloat64
	least    = math.SmallestNonzeroFloat64
)

// opposite changes the sign's bit alone.
func opposite(x float64) float64 { return math.Float64frombits(math.Float64bits(x) ^ 1<<63) }

func bigOf(x float64) *big.Float { return new(big.Float).SetPrec(allBits).SetFloat64(x) }

func rounded(exact *big.Float) float64 {
	f, _ := exact.Float64()
	return f
}

func productOf(x, y float64) float64 {
	switch {
	case math.IsNaN(x) || math.IsNaN(y):
		return none
	case math.IsInf(x, 0) || math.IsInf(y, 0):
		if x == 0 || y == 0 {
			return none
		}
		if math.Signbit(x) != math.Signbit(y) {
			return -infinite
		}
		return infinite
	}
	exact := bigOf(x)
	return rounded(exact.Mul(exact, bigOf(y)))
}

func sumOf(x, y float64) float64 {
	switch {
	case math.IsNaN(x) || math.IsNaN(y):
		return none
	case math.IsInf(x, 0) && math.IsInf(y, 0) && x != y:
		return none
	case math.IsInf(x, 0):
		return x
	case math.IsInf(y, 0):
		return y
	}
	exact := bigOf(x)
	return rounded(exact.Add(exact, bigOf(y)))
}

func differenceOf(x, y float64) float64 { return sumOf(x, opposite(y)) }

func referenceAdd(a, b complex128) complex128 {
	return complex(sumOf(real(a), real(b)), sumOf(imag(a), imag(b)))
}

func referenceSub(a, b complex128) complex128 {
	return complex(differenceOf(real(a), real(b)), differenceOf(imag(a), imag(b)))
}

func referenceMul(a, b complex128) complex128 {
	x, y, u, v := real(a), imag(a), real(b), imag(b)
	return complex(differenceOf(productOf(x, u), productOf(y, v)), sumOf(productOf(x, v), productOf(y, u)))
}

func referenceSize2(a complex128) float64 {
	return sumOf(productOf(real(a), real(a)), productOf(imag(a), imag(a)))
}

// referenceTurn has big.Int's Mod, which is Euclid's, say how far to turn.
func referenceTurn(a complex128, k int) complex128 {
	x, y := real(a), imag(a)
	far := new(big.Int).Mod(big.NewInt(int64(k)), big.NewInt(4))
	return []complex128{a, complex(opposite(y), x), complex(opposite(x), opposite(y)), complex(y, opposite(x))}[far.Int64()]
}

func referenceSum(l []complex128) complex128 {
	sum := complex(0, 0)
	for _, a := range l {
		sum = referenceAdd(sum, a)
	}
	return sum
}

func referencePoly(l []complex128, z complex128) complex128 {
	if len(l) == 0 {
		return 0
	}
	return referenceAdd(referenceMul(referencePoly(l[1:], z), z), l[0])
}

func referenceFour(l [4]complex128) [4]complex128 {
	var all [4]complex128
	for k := range 4 {
		var turned []complex128
		for j, a := range l {
			turned = append(turned, referenceTurn(a, -j*k))
		}
		all[k] = referenceSum(turned)
	}
	return all
}

// alikeReals: of what is no number only that it is none counts; of noughts the sign counts too.
func alikeReals(x, y float64) bool {
	if math.IsNaN(x) || math.IsNaN(y) {
		return math.IsNaN(x) && math.IsNaN(y)
	}
	return math.Float64bits(x) == math.Float64bits(y)
}

func alike(a, b complex128) bool {
	return alikeReals(real(a), real(b)) && alikeReals(imag(a), imag(b))
}

func want(t *testing.T, got, wanted complex128, call string, handed ...any) {
	t.Helper()
	if !alike(got, wanted) {
		t.Errorf("%s of %v: %v; want %v", call, handed, got, wanted)
	}
}

func wantReal(t *testing.T, got, wanted float64, call string, handed ...any) {
	t.Helper()
	if !alikeReals(got, wanted) {
		t.Errorf("%s of %v: %v; want %v", call, handed, got, wanted)
	}
}

// edgeParts are both noughts, what is no number, what is infinite, the least and the greatest reals, ones whose products leave these, and ones whose products have more bits than a real.
func edgeParts() []float64 {
	l := []float64{0, minus0, none}
	for _, x := range []float64{1, 1 + 0x1p-27, 3, 0.1, least, 0x1p-1022, 0x1.8p-540, 0x1.fp511, greatest, infinite} {
		l = append(l, x, -x)
	}
	return l
}

// edges are all numbers whose parts are of edgeParts.
func edges() []complex128 {
	var l []complex128
	for _, x := range edgeParts() {
		for _, y := range edgeParts() {
			l = append(l, complex(x, y))
		}
	}
	return l
}

// drawnPart is a real whose bits are all at random, or, mostly, one of a size near to 1, so that parts meet.
func drawnPart(draw *rand.Rand) float64 {
	switch draw.Intn(8) {
	case 0:
		return math.Float64frombits(draw.Uint64())
	case 1:
		parts := edgeParts()
		return parts[draw.Intn(len(parts))]
	case 2:
		return float64(draw.Intn(9) - 4)
	}
	return math.Ldexp(draw.Float64()*2-1, draw.Intn(5))
}

func drawn(draw *rand.Rand) complex128 { return complex(drawnPart(draw), drawnPart(draw)) }

// drawnList has up to 6 numbers.
func drawnList(draw *rand.Rand) []complex128 {
	l := make([]complex128, draw.Intn(7))
	for i := range l {
		l[i] = drawn(draw)
	}
	return l
}
