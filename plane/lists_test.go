package plane_test

import (
	"math"
	"math/rand"
	"testing"

	"chordmail/plane"
)

func wantFour(t *testing.T, l, wanted [4]complex128) {
	t.Helper()
	for k, got := range plane.Four(l) {
		want(t, got, wanted[k], "a number of Four", l, k)
	}
}

// P4.3: how far a number is turned, by numbers around 0 and at both ends of the ints.
func TestTurnHowFar(t *testing.T) {
	quarters := []complex128{1 + 2i, -2 + 1i, -1 - 2i, 2 - 1i}
	for k := range 4 {
		for _, far := range []int{k, k + 4, k + 400, k - 4, k - 8, k - 400, math.MinInt + k, math.MaxInt - 3 + k} {
			want(t, plane.Turn(1+2i, far), quarters[k], "Turn", 1+2i, far)
		}
	}
	want(t, plane.Turn(1+2i, math.MinInt), 1+2i, "Turn by the least int")
	want(t, plane.Turn(1+2i, math.MaxInt), 2-1i, "Turn by the greatest int")
}

// P4.3: all edges: which part comes where, with which sign, a nought's too.
func TestTurnOfEdges(t *testing.T) {
	for _, a := range edges() {
		for _, k := range []int{-9, -5, -4, -3, -2, -1, 0, 1, 2, 3, 4, 5, 11, math.MinInt, math.MinInt + 1, math.MaxInt - 1, math.MaxInt} {
			want(t, plane.Turn(a, k), referenceTurn(a, k), "Turn", a, k)
		}
	}
	want(t, plane.Turn(0, 1), complex(minus0, 0), "a quarter of 0")
	want(t, plane.Turn(0, 2), complex(minus0, minus0), "a half of 0")
	want(t, plane.Turn(0, 3), complex(0, minus0), "three quarters of 0")
	want(t, plane.Turn(0, 4), 0, "0, turned round")
}

// P4.4: 0 is +0 and stands first; the numbers are added from the first one on.
func TestSum(t *testing.T) {
	n := complex(minus0, minus0)
	for _, c := range []struct {
		l      []complex128
		answer complex128
	}{
		{nil, 0}, {[]complex128{}, 0}, {[]complex128{2 - 3i}, 2 - 3i}, {[]complex128{n}, 0}, {[]complex128{n, n, n}, 0},
		{[]complex128{1, 2i, 3}, 4 + 2i},
		{[]complex128{1, 0x1p-53, 0x1p-53}, 1},
		{[]complex128{0x1p-53, 0x1p-53, 1}, 1 + 0x1p-52},
		{[]complex128{1i, 0x1p-53i, 0x1p-53i}, 1i},
		{[]complex128{0x1p-53i, 0x1p-53i, 1i}, (1 + 0x1p-52) * 1i},
		{[]complex128{greatest, greatest, -greatest}, complex(infinite, 0)},
		{[]complex128{greatest, -greatest, greatest}, greatest},
		{[]complex128{-greatest * 1i, -greatest * 1i}, complex(0, -infinite)},
		{[]complex128{complex(infinite, 1), complex(-infinite, 1), 1}, complex(none, 2)},
		{[]complex128{complex(0, none), 7}, complex(7, none)},
		{[]complex128{complex(least, -least), complex(least, least)}, complex(2*least, 0)},
	} {
		want(t, plane.Sum(c.l...), c.answer, "Sum", c.l)
	}
}

// P4.4: from the last number on, from 0 on, which is multiplied too.
func TestPoly(t *testing.T) {
	n := complex(minus0, minus0)
	for _, c := range []struct {
		l         []complex128
		z, answer complex128
	}{
		{nil, complex(none, infinite), 0}, {[]complex128{}, -3, 0}, {[]complex128{4 - 2i}, 7 + 1i, 4 - 2i},
		{[]complex128{3, 2, 1}, 2, 11}, {[]complex128{1, 1i}, 1i, 0}, {[]complex128{0, 0, 1i}, 1 + 1i, -2},
		{[]complex128{5}, complex(infinite, 0), complex(none, none)},
		{[]complex128{5}, complex(0, none), complex(none, none)},
		{[]complex128{n}, 1, 0},
		{[]complex128{n}, -1, complex(minus0, 0)},
		{[]complex128{n}, -1i, complex(0, 0)},
		{[]complex128{n}, complex(-1, 1), complex(minus0, 0)},
		{[]complex128{1, greatest}, 2, complex(infinite, 0)},
		{[]complex128{-greatest, greatest}, 2, complex(infinite, 0)},
		{[]complex128{0, least}, 0.5, 0},
		{[]complex128{0, 0, 3 * least}, 0.5, least},
	} {
		want(t, plane.Poly(c.l, c.z), c.answer, "Poly", c.l, c.z)
	}
}

// P4.4, P4.5: lists that are drawn.
func TestDrawnLists(t *testing.T) {
	draw := rand.New(rand.NewSource(5))
	for range 5000 {
		l, z := drawnList(draw), drawn(draw)
		want(t, plane.Sum(l...), referenceSum(l), "Sum", l)
		want(t, plane.Poly(l, z), referencePoly(l, z), "Poly", l, z)
		four := [4]complex128{drawn(draw), drawn(draw), drawn(draw), drawn(draw)}
		wantFour(t, four, referenceFour(four))
	}
}

// P4.5: one number alone shows how far each is turned; of noughts there is no -0; the first number is added first.
func TestFour(t *testing.T) {
	const a = 1 + 2i
	wantFour(t, [4]complex128{a}, [4]complex128{a, a, a, a})
	wantFour(t, [4]complex128{0, a}, [4]complex128{a, 2 - 1i, -1 - 2i, -2 + 1i})
	wantFour(t, [4]complex128{0, 0, a}, [4]complex128{a, -1 - 2i, a, -1 - 2i})
	wantFour(t, [4]complex128{0, 0, 0, a}, [4]complex128{a, -2 + 1i, -1 - 2i, 2 - 1i})
	for _, n := range []complex128{0, complex(minus0, minus0), complex(0, minus0), complex(minus0, 0)} {
		wantFour(t, [4]complex128{n, n, n, n}, [4]complex128{})
		wantFour(t, [4]complex128{1, n, n, n}, [4]complex128{1, 1, 1, 1})
	}
	const small = 0x1p-53
	wantFour(t, [4]complex128{1, small, small, small}, [4]complex128{1, 1 - small, 1 - small, 1 - small})
	wantFour(t, [4]complex128{small, small, small, 1}, [4]complex128{1 + 4*small, (1 - small) * 1i, -1 + small, (small - 1) * 1i})
	wantFour(t, [4]complex128{complex(none, 1), 1i}, [4]complex128{complex(none, 2), complex(none, 1), complex(none, 0), complex(none, 1)})
	wantFour(t, [4]complex128{0, complex(infinite, 0), complex(infinite, 0)}, [4]complex128{complex(infinite, 0), complex(-infinite, -infinite), complex(none, 0), complex(-infinite, infinite)})
}
