package checked_test

import (
	"math"
	"math/big"
	"slices"
	"testing"

	"chordmail/api"
	"chordmail/checked"
)

const (
	m        = math.MinInt64
	greatest = math.MaxInt64
)

// edges are the numbers around which a call may go wrong: nought, 2^31, 2^32, 2^62, 2^63, the root of 2^63, each with its neighbours and either sign.
func edges() []int64 {
	var l []int64
	for _, n := range []int64{0, 10, 1 << 31, 1 << 32, 3037000500, 1 << 62, greatest / 3, greatest - 2} {
		for near := n - 2; ; near++ {
			l = append(l, near, -near)
			if near == n+2 {
				break
			}
		}
	}
	l = append(l, m, m+1, m+2, m+3, m/2, m/3)
	slices.Sort(l)
	return slices.Compact(l)
}

func bigOf(n int64) *big.Int { return big.NewInt(n) }

// wantBig holds an answer against a number of any size.
func wantBig(t *testing.T, call string, l []int64, got int64, e api.Errno, want *big.Int) {
	t.Helper()
	if !want.IsInt64() {
		if got != 0 || e != api.ErrOver {
			t.Errorf("%s of %d: %d, %v; want 0, %v", call, l, got, e, api.ErrOver)
		}
		return
	}
	if got != want.Int64() || e != api.OK {
		t.Errorf("%s of %d: %d, %v; want %d", call, l, got, e, want)
	}
}

func want(t *testing.T, call string, got int64, e api.Errno, n int64, wanted api.Errno) {
	t.Helper()
	if got != n || e != wanted {
		t.Errorf("%s: %d, %v; want %d, %v", call, got, e, n, wanted)
	}
}

// P3.1, P3.2: the chapter's examples of two numbers and of one.
func TestExamplesOfPairs(t *testing.T) {
	for _, c := range []struct {
		name   string
		call   func(a, b int64) (int64, api.Errno)
		a, b   int64
		answer int64
		e      api.Errno
	}{
		{"Add", checked.Add, greatest, 1, 0, api.ErrOver},
		{"Sub", checked.Sub, m, 1, 0, api.ErrOver},
		{"Mul", checked.Mul, m, -1, 0, api.ErrOver},
		{"Mul", checked.Mul, 1 << 32, 1 << 31, 0, api.ErrOver},
		{"Mul", checked.Mul, 1 << 32, -1 << 31, m, api.OK},
		{"Mul", checked.Mul, 0, m, 0, api.OK},
		{"Div", checked.Div, 7, -2, -3, api.OK},
		{"Rem", checked.Rem, 7, -2, 1, api.OK},
		{"Div", checked.Div, -7, 2, -3, api.OK},
		{"Rem", checked.Rem, -7, 2, -1, api.OK},
		{"Div", checked.Div, m, -1, 0, api.ErrOver},
		{"Rem", checked.Rem, m, -1, 0, api.OK},
		{"Div", checked.Div, 1, 0, 0, api.ErrZero},
		{"Rem", checked.Rem, 0, 0, 0, api.ErrZero},
	} {
		got, e := c.call(c.a, c.b)
		if got != c.answer || e != c.e {
			t.Errorf("%s(%d, %d): %d, %v; want %d, %v", c.name, c.a, c.b, got, e, c.answer, c.e)
		}
	}
	got, e := checked.Neg(m)
	want(t, "Neg of the least number", got, e, 0, api.ErrOver)
	got, e = checked.Neg(5)
	want(t, "Neg(5)", got, e, -5, api.OK)
}

// P3.1: sums, differences, products and the other sign of all edges with one another, against numbers of any size.
func TestAddSubMulNeg(t *testing.T) {
	for _, a := range edges() {
		for _, b := range edges() {
			pair := []int64{a, b}
			got, e := checked.Add(a, b)
			wantBig(t, "Add", pair, got, e, new(big.Int).Add(bigOf(a), bigOf(b)))
			got, e = checked.Sub(a, b)
			wantBig(t, "Sub", pair, got, e, new(big.Int).Sub(bigOf(a), bigOf(b)))
			got, e = checked.Mul(a, b)
			wantBig(t, "Mul", pair, got, e, new(big.Int).Mul(bigOf(a), bigOf(b)))
		}
		got, e := checked.Neg(a)
		wantBig(t, "Neg", []int64{a}, got, e, new(big.Int).Neg(bigOf(a)))
	}
}

// P3.1: a product of just 2^63 is within below 0 alone, one of 2^63 - 1 with either sign.
func TestMulAtTheEdge(t *testing.T) {
	for shift := range 63 {
		a, b := int64(1)<<shift, int64(-1)<<(63-shift)
		got, e := checked.Mul(a, b)
		want(t, "a product of -2^63", got, e, m, api.OK)
		got, e = checked.Mul(b, a)
		want(t, "a product of -2^63", got, e, m, api.OK)
		got, e = checked.Mul(-a, b)
		want(t, "a product of 2^63 of two below 0", got, e, 0, api.ErrOver)
		if shift > 0 {
			got, e = checked.Mul(a, -b)
			want(t, "a product of 2^63", got, e, 0, api.ErrOver)
		}
	}
	// 2^63 - 1 is 7 times this number.
	const seventh = greatest / 7
	got, e := checked.Mul(7, seventh)
	want(t, "7 times a seventh", got, e, greatest, api.OK)
	got, e = checked.Mul(-7, -seventh)
	want(t, "-7 times a seventh below 0", got, e, greatest, api.OK)
	got, e = checked.Mul(-7, seventh)
	want(t, "-7 times a seventh", got, e, -greatest, api.OK)
}

// P3.2: quotients and remainders of all edges by one another, against numbers of any size; by 0 none.
func TestDivRem(t *testing.T) {
	for _, a := range edges() {
		for _, b := range edges() {
			got, e := checked.Div(a, b)
			rest, f := checked.Rem(a, b)
			if b == 0 {
				want(t, "Div by 0", got, e, 0, api.ErrZero)
				want(t, "Rem by 0", rest, f, 0, api.ErrZero)
				continue
			}
			quotient, remainder := new(big.Int).QuoRem(bigOf(a), bigOf(b), new(big.Int))
			wantBig(t, "Div", []int64{a, b}, got, e, quotient)
			wantBig(t, "Rem", []int64{a, b}, rest, f, remainder)
			if (e != api.OK) != (a == m && b == -1) {
				t.Errorf("Div(%d, %d): %v", a, b, e)
			}
		}
	}
}

// P3.4: the chapter's examples, and n below 1.
func TestEuclid(t *testing.T) {
	for _, c := range []struct {
		a, n, answer int
		e            api.Errno
	}{
		{7, 3, 1, api.OK}, {-7, 3, 2, api.OK}, {m, 10, 2, api.OK}, {-1, greatest, greatest - 1, api.OK},
		{5, 0, 0, api.ErrArg}, {5, -1, 0, api.ErrArg}, {-5, -3, 0, api.ErrArg}, {0, m, 0, api.ErrArg}, {m, m, 0, api.ErrArg}, {m, -1, 0, api.ErrArg},
		{m, 1, 0, api.OK}, {greatest, 1, 0, api.OK}, {m, greatest, greatest - 1, api.OK}, {greatest, greatest, 0, api.OK}, {-greatest, greatest, 0, api.OK},
		{-6, 3, 0, api.OK}, {6, 3, 0, api.OK}, {0, 3, 0, api.OK}, {2, 3, 2, api.OK}, {m, 2, 0, api.OK}, {m, 3, 1, api.OK},
	} {
		if got, e := checked.Euclid(c.a, c.n); got != c.answer || e != c.e {
			t.Errorf("Euclid(%d, %d): %d, %v; want %d, %v", c.a, c.n, got, e, c.answer, c.e)
		}
	}
}

// P3.4: of all edges by one another, the answer is from 0 to n - 1 and leaves a multiple of n; below 1 there is none.
func TestEuclidOfEdges(t *testing.T) {
	for _, a := range edges() {
		for _, n := range edges() {
			got, e := checked.Euclid(int(a), int(n))
			if n < 1 {
				want(t, "Euclid by less than 1", int64(got), e, 0, api.ErrArg)
				continue
			}
			left := new(big.Int).Sub(bigOf(a), bigOf(int64(got)))
			if e != api.OK || got < 0 || int64(got) >= n || left.Rem(left, bigOf(n)).Sign() != 0 {
				t.Errorf("Euclid(%d, %d): %d, %v", a, n, got, e)
			}
		}
	}
}
