package checked_test

import (
	"slices"
	"testing"

	"chordmail/api"
	"chordmail/checked"
)

// P3.5: from a sum back by the difference; from the quotient and the remainder back to a.
func TestThereAndBack(t *testing.T) {
	for _, a := range edges() {
		for _, b := range edges() {
			if sum, e := checked.Add(a, b); e == api.OK {
				back, e := checked.Sub(sum, b)
				want(t, "back from a sum", back, e, a, api.OK)
			}
			quotient, e := checked.Div(a, b)
			if e != api.OK {
				continue
			}
			rest, e := checked.Rem(a, b)
			if e != api.OK || below0(rest) <= below0(b) {
				t.Errorf("Rem(%d, %d): %d, %v", a, b, rest, e)
			}
			times, e := checked.Mul(b, quotient)
			if e != api.OK {
				t.Errorf("%d times the quotient of %d by it: %v", b, a, e)
			}
			back, e := checked.Add(times, rest)
			want(t, "back from a quotient", back, e, a, api.OK)
		}
	}
}

// below0 is the number of n's size that is not above 0: -2^63 has one, too.
func below0(n int64) int64 { return min(n, -n) }

// P3.6: of two numbers the sum is Add's and the product Mul's, errors too, in either order.
func TestListsOfTwo(t *testing.T) {
	for _, a := range edges() {
		for _, b := range edges() {
			sum, e := checked.Add(a, b)
			product, f := checked.Mul(a, b)
			for _, l := range [][]int64{{a, b}, {b, a}} {
				got, wrong := checked.Sum(l...)
				want(t, "Sum of two", got, wrong, sum, e)
				got, wrong = checked.Product(l...)
				want(t, "Product of two", got, wrong, product, f)
			}
		}
	}
}

// P3.7: n numbers that follow one another have all remainders from 0 to n - 1, each once.
func TestPicks(t *testing.T) {
	for n := 1; n <= 70; n++ {
		for _, from := range []int{m, m + 1, -200, -n, 1 - n, -1, 0, 1, n, 100, greatest - n + 1} {
			seen := make([]bool, n)
			for i := range n {
				r, e := checked.Euclid(from+i, n)
				if e != api.OK || r < 0 || r >= n || seen[r] {
					t.Fatalf("Euclid(%d, %d): %d, %v, of numbers from %d on", from+i, n, r, e, from)
				}
				seen[r] = true
			}
		}
	}
}

// P3.8: a list that is handed in stays as it was, the room behind it too; what is done with it behind the call changes no later answer.
func TestMemory(t *testing.T) {
	for _, l := range someLists() {
		whole := append(slices.Clone(l), 5, 6, 7)
		before := slices.Clone(whole)
		handed := whole[:len(l)]
		sum, e := checked.Sum(handed...)
		product, f := checked.Product(handed...)
		if !slices.Equal(whole, before) {
			t.Fatalf("%d became %d", before, whole)
		}
		for i := range whole {
			whole[i] = 99
		}
		got, wrong := checked.Sum(l...)
		want(t, "Sum, again", got, wrong, sum, e)
		got, wrong = checked.Product(l...)
		want(t, "Product, again", got, wrong, product, f)
		if got, wrong := checked.Sum(); got != 0 || wrong != api.OK {
			t.Errorf("Sum of none: %d, %v", got, wrong)
		}
	}
}
