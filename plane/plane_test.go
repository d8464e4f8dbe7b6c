package plane_test

import (
	"math"
	"math/rand"
	"testing"

	"chordmail/plane"
)

// P4.1 to P4.5: the chapter's examples, noughts with their signs.
func TestExamples(t *testing.T) {
	want(t, plane.Mul(1+2i, 3-1i), 5+5i, "Mul", 1+2i, 3-1i)
	wantReal(t, plane.Size2(3+4i), 25, "Size2", 3+4i)
	want(t, plane.Conj(1+0i), complex(1, minus0), "Conj", 1+0i)
	want(t, plane.Turn(1+2i, 1), -2+1i, "Turn", 1+2i, 1)
	want(t, plane.Turn(1+2i, -1), 2-1i, "Turn", 1+2i, -1)
	want(t, plane.Turn(1+2i, 6), -1-2i, "Turn", 1+2i, 6)
	want(t, plane.Sum(), 0, "Sum")
	want(t, plane.Poly(nil, 5), 0, "Poly", 5)
	want(t, plane.Poly([]complex128{1, 2, 3}, 2), 17, "Poly", 1, 2, 3, 2)
	wantFour(t, [4]complex128{1, 2, 3, 4}, [4]complex128{10, -2 + 2i, -2, -2 - 2i})
	if !plane.Equal(0, complex(minus0, 0)) || plane.Equal(complex(none, 0), complex(none, 0)) {
		t.Error("Equal of 0 and -0, or of what is no number")
	}
}

// P4.1: all edges with one another.
func TestAddSubMul(t *testing.T) {
	for _, a := range edges() {
		for _, b := range edges() {
			want(t, plane.Add(a, b), referenceAdd(a, b), "Add", a, b)
			want(t, plane.Sub(a, b), referenceSub(a, b), "Sub", a, b)
		}
	}
	// Products are dear to reckon with big numbers: each edge with some of the others.
	for i, a := range edges() {
		for k, b := range edges() {
			if (i+k)%5 == 0 {
				want(t, plane.Mul(a, b), referenceMul(a, b), "Mul", a, b)
			}
		}
	}
}

// P4.1, P4.2: numbers that are drawn.
func TestDrawn(t *testing.T) {
	draw := rand.New(rand.NewSource(4))
	for range 30000 {
		a, b, s := drawn(draw), drawn(draw), drawnPart(draw)
		want(t, plane.Add(a, b), referenceAdd(a, b), "Add", a, b)
		want(t, plane.Sub(a, b), referenceSub(a, b), "Sub", a, b)
		want(t, plane.Mul(a, b), referenceMul(a, b), "Mul", a, b)
		want(t, plane.Scale(a, s), complex(productOf(real(a), s), productOf(imag(a), s)), "Scale", a, s)
		wantReal(t, plane.Size2(a), referenceSize2(a), "Size2", a)
	}
}

// d is so small that of (1 + d) (1 + d) = 1 + 2 d + d d the last part is rounded off.
const d = 0x1p-27

// P4.1: products whose parts cancel, or nearly so. What is rounded at once keeps d d, by one product or by the other.
func TestMulRoundsEachPart(t *testing.T) {
	for _, c := range []struct{ a, b, answer complex128 }{
		{complex(1+d, 1+2*d), complex(1+d, 1), complex(0, 1+d+1+3*d)},
		{complex(1+2*d, 1+d), complex(1, 1+d), complex(0, 1+3*d+1+d)},
		{complex(1+d, -1-2*d), complex(1, 1+d), complex(1+d+1+3*d, 0)},
		{complex(-1-2*d, 1+d), complex(1+d, 1), complex(-1-3*d-1-d, 0)},
	} {
		want(t, plane.Mul(c.a, c.b), c.answer, "Mul", c.a, c.b)
		x, y, u, v := real(c.a), imag(c.a), real(c.b), imag(c.b)
		re, im := real(c.answer), imag(c.answer)
		if math.FMA(x, u, -(y*v)) == re && math.FMA(-y, v, x*u) == re && math.FMA(x, v, y*u) == im && math.FMA(y, u, x*v) == im {
			t.Errorf("%v times %v is the same, rounded at once", c.a, c.b)
		}
	}
}

// P4.2: squares whose lost bits would, rounded at once, make the sum the next greater real.
func TestSize2RoundsEachPart(t *testing.T) {
	const x, y, answer = 1 + d, 1.25 * d, 1 + 2*d
	for _, a := range []complex128{complex(x, y), complex(y, x), complex(-x, y), complex(y, -x)} {
		wantReal(t, plane.Size2(a), answer, "Size2", a)
	}
	if got := math.FMA(x, x, y*y); got != math.Nextafter(answer, 2) {
		t.Errorf("rounded at once: %v", got)
	}
}

// P4.4: in Poly each product is rounded ahead of the number that is added, and each of its own two ahead of their sum.
func TestPolyRoundsEachPart(t *testing.T) {
	for _, c := range []struct {
		l         []complex128
		z, answer complex128
	}{
		{[]complex128{-1 - 2*d, 1 + d}, 1 + d, 0},
		{[]complex128{1 + 2*d, complex(0, 1+d)}, complex(0, 1+d), 0},
		{[]complex128{complex(0, -1-2*d), 1 + d}, complex(0, 1+d), 0},
		{[]complex128{complex(0, -1-2*d), complex(0, 1+d)}, 1 + d, 0},
		{[]complex128{0, complex(1+d, 1+2*d)}, complex(1+d, 1), complex(0, 1+d+1+3*d)},
		{[]complex128{0, complex(1+2*d, 1+d)}, complex(1, 1+d), complex(0, 1+3*d+1+d)},
		{[]complex128{3, complex(1+d, -1-2*d)}, complex(1, 1+d), complex(3+(1+d+1+3*d), 0)},
	} {
		want(t, plane.Poly(c.l, c.z), c.answer, "Poly", c.l, c.z)
		want(t, referencePoly(c.l, c.z), c.answer, "the reference's Poly", c.l, c.z)
	}
	if got := math.FMA(1+d, 1+d, -1-2*d); got != d*d {
		t.Errorf("rounded at once: %v", got)
	}
}

// P4.1, P4.2: which nought comes out; parts that are infinite, or no numbers; what leaves the greatest real, and what is less than the least.
func TestOddParts(t *testing.T) {
	n := complex(minus0, minus0)
	for _, c := range []struct {
		call        string
		got, wanted complex128
	}{
		{"Add of -0 and -0", plane.Add(n, n), n},
		{"Add of -0 and 0", plane.Add(n, 0), 0},
		{"Add of a number and its opposite", plane.Add(2-3i, -2+3i), 0},
		{"Sub of -0 and 0", plane.Sub(n, 0), n},
		{"Sub of -0 and -0", plane.Sub(n, n), 0},
		{"Sub of 0 and 0", plane.Sub(0, 0), 0},
		{"Mul of -0 and 1", plane.Mul(n, 1), complex(0, minus0)},
		{"Mul of -0-0i and -1", plane.Mul(n, -1), 0},
		{"Mul of 0 and -1", plane.Mul(0, -1), complex(minus0, 0)},
		{"Scale by -0", plane.Scale(1-1i, minus0), complex(minus0, 0)},
		{"Scale of -0", plane.Scale(n, 3), n},
		{"Conj of 0", plane.Conj(0), complex(0, minus0)},
		{"Conj of -0", plane.Conj(n), complex(minus0, 0)},
		{"Add beyond the greatest", plane.Add(greatest-greatest*1i, greatest-greatest*1i), complex(infinite, -infinite)},
		{"Sub beyond the greatest", plane.Sub(-greatest+0i, greatest), complex(-infinite, 0)},
		{"Mul beyond the greatest", plane.Mul(greatest, 2i), complex(0, infinite)},
		{"Mul of two that leave it and meet", plane.Mul(greatest+greatest*1i, 2+2i), complex(none, infinite)},
		{"Scale beyond the greatest", plane.Scale(greatest-greatest*1i, -2), complex(-infinite, infinite)},
		{"Scale of the least by a half", plane.Scale(complex(least, -least), 0.5), complex(0, minus0)},
		{"Scale of thrice the least by a half", plane.Scale(complex(3*least, -least), 0.5), complex(2*least, minus0)},
		{"Mul of the least ones", plane.Mul(complex(least, 0), complex(-least, 0)), complex(minus0, 0)},
		{"Sub to the least", plane.Sub(complex(0x1p-1022, least), complex(0x1p-1022-least, 0)), complex(least, least)},
		{"Add of what is infinite either way", plane.Add(complex(infinite, infinite), complex(-infinite, infinite)), complex(none, infinite)},
		{"Sub of what is infinite", plane.Sub(complex(infinite, -infinite), complex(infinite, infinite)), complex(none, -infinite)},
		{"Mul of what is infinite and 1", plane.Mul(complex(infinite, 0), 1), complex(infinite, none)},
		{"Scale of what is infinite by 0", plane.Scale(complex(infinite, 1), 0), complex(none, 0)},
		{"Conj of what is infinite", plane.Conj(complex(infinite, infinite)), complex(infinite, -infinite)},
		{"Conj of what is no number", plane.Conj(complex(none, none)), complex(none, none)},
		{"Add of what is no number, in one part", plane.Add(complex(none, 1), 1i), complex(none, 2)},
		{"Scale of what is no number, in one part", plane.Scale(complex(1, none), 2), complex(2, none)},
	} {
		want(t, c.got, c.wanted, c.call)
	}
}

// P4.2: each with all edges; a square's sum has no -0.
func TestScaleConjSize2(t *testing.T) {
	for _, a := range edges() {
		want(t, plane.Conj(a), complex(real(a), opposite(imag(a))), "Conj", a)
		wantReal(t, plane.Size2(a), referenceSize2(a), "Size2", a)
		for _, s := range edgeParts() {
			want(t, plane.Scale(a, s), complex(productOf(real(a), s), productOf(imag(a), s)), "Scale", a, s)
		}
	}
	wantReal(t, plane.Size2(complex(minus0, minus0)), 0, "Size2 of -0")
	wantReal(t, plane.Size2(complex(greatest, 1)), infinite, "Size2 beyond the greatest")
	wantReal(t, plane.Size2(complex(least, least)), 0, "Size2 of the least")
	wantReal(t, plane.Size2(complex(-infinite, none)), none, "Size2 of what is no number")
}

// P4.2: numbers are equal by each part, noughts of either sign, and none that is no number.
func TestEqual(t *testing.T) {
	for _, a := range edges() {
		for _, b := range edges() {
			parts := [2][2]float64{{real(a), real(b)}, {imag(a), imag(b)}}
			wanted := true
			for _, p := range parts {
				nought := p[0] == 0 && p[1] == 0
				wanted = wanted && !math.IsNaN(p[0]) && (nought || alikeReals(p[0], p[1]))
			}
			if plane.Equal(a, b) != wanted {
				t.Errorf("Equal of %v and %v: %v", a, b, !wanted)
			}
		}
	}
	if plane.Equal(1+2i, 1+3i) || plane.Equal(1+2i, 2+2i) || plane.Equal(1+2i, 2+1i) || !plane.Equal(1+2i, 1+2i) {
		t.Error("Equal of 1+2i")
	}
}
