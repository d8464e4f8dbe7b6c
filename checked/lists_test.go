package checked_test

import (
	"math/big"
	"math/rand"
	"slices"
	"testing"

	"chordmail/api"
	"chordmail/checked"
)

func wantLists(t *testing.T, l []int64) {
	t.Helper()
	sum, product := new(big.Int), bigOf(1)
	for _, n := range l {
		sum.Add(sum, bigOf(n))
		product.Mul(product, bigOf(n))
	}
	got, e := checked.Sum(l...)
	wantBig(t, "Sum", l, got, e, sum)
	got, e = checked.Product(l...)
	wantBig(t, "Product", l, got, e, product)
}

// inAllOrders gives f a list in each order that there is.
func inAllOrders(l []int64, f func(l []int64)) {
	var from func(k int)
	from = func(k int) {
		if k == len(l) {
			f(slices.Clone(l))
			return
		}
		for i := k; i < len(l); i++ {
			l[k], l[i] = l[i], l[k]
			from(k + 1)
			l[k], l[i] = l[i], l[k]
		}
	}
	from(0)
}

// someLists are lists that leave 64 bits on the way and come back, ones that leave them for good, and ones with a nought somewhere.
func someLists() [][]int64 {
	return [][]int64{
		nil, {}, {0}, {1}, {-1}, {m}, {greatest},
		{greatest, 1, -1}, {greatest, greatest, m, m, 2}, {greatest, greatest, m, m, 1}, {m, m, greatest, 1, greatest}, {m, -1, 1}, {m, -1}, {m, m}, {greatest, greatest, 2},
		{m, m, greatest, greatest, greatest}, {m, m, m, greatest, greatest}, {m, 1 << 62, 1 << 62}, {m, 1 << 62, 1<<62 - 1}, {-1 << 62, -1 << 62}, {-1 << 62, -1 << 62, -1},
		{1 << 62, 4, 0}, {0, 1 << 62, 4}, {m, m, m, 0}, {greatest, greatest, 0, greatest}, {0, 0}, {m, 0},
		{-1 << 62, 2, 1}, {1 << 62, 2}, {1 << 62, -2}, {-1 << 62, -2}, {m, -1, -1}, {m, 1, 1}, {1 << 32, 1 << 31, -1}, {1 << 32, -1 << 31, 1}, {1 << 32, -1 << 31, -1, -1},
		{-1 << 21, -1 << 21, -1 << 21}, {1 << 21, 1 << 21, 1 << 21}, {1 << 32, 1 << 32}, {1 << 32, 1 << 32, 1 << 32}, {m, m, 1}, {m, 2, -1}, {1 << 32, 1 << 32, 1 << 32, 0}, {m, -2, 1},
		{3, 3, 7, 7, 73, 127}, {greatest, -1, -1}, {greatest, 2}, {-1, -1, -1, -1}, {2, -3, 5, -7, -11, 13},
	}
}

// P3.3: the chapter's examples.
func TestExamplesOfLists(t *testing.T) {
	for _, c := range []struct {
		call   func(l ...int64) (int64, api.Errno)
		l      []int64
		answer int64
		e      api.Errno
	}{
		{checked.Sum, nil, 0, api.OK}, {checked.Sum, []int64{greatest, 1, -1}, greatest, api.OK}, {checked.Sum, []int64{m, -1}, 0, api.ErrOver},
		{checked.Product, nil, 1, api.OK}, {checked.Product, []int64{1 << 62, 4, 0}, 0, api.OK}, {checked.Product, []int64{-1 << 62, 2, 1}, m, api.OK}, {checked.Product, []int64{1 << 62, 2}, 0, api.ErrOver},
	} {
		if got, e := c.call(c.l...); got != c.answer || e != c.e {
			t.Errorf("of %d: %d, %v; want %d, %v", c.l, got, e, c.answer, c.e)
		}
	}
}

// P3.3, P3.6: lists in each order, against numbers of any size, and each order's answer against the others'.
func TestSumProduct(t *testing.T) {
	for _, l := range someLists() {
		sum, e := checked.Sum(l...)
		product, f := checked.Product(l...)
		inAllOrders(l, func(l []int64) {
			wantLists(t, l)
			if got, wrong := checked.Sum(l...); got != sum || wrong != e {
				t.Errorf("Sum of %d: %d, %v; in another order %d, %v", l, got, wrong, sum, e)
			}
			if got, wrong := checked.Product(l...); got != product || wrong != f {
				t.Errorf("Product of %d: %d, %v; in another order %d, %v", l, got, wrong, product, f)
			}
		})
	}
}

// P3.3: three edges each, and lists drawn of edges and of small numbers.
func TestSumProductOfEdges(t *testing.T) {
	all := edges()
	for _, a := range all {
		for _, b := range all {
			wantLists(t, []int64{a, b, all[(len(all)*7+int(a&31)+int(b&31))%len(all)]})
		}
	}
	draw := rand.New(rand.NewSource(3))
	for range 20000 {
		l := make([]int64, draw.Intn(9))
		for i := range l {
			l[i] = int64(draw.Uint64()) >> draw.Intn(64)
			if draw.Intn(3) == 0 {
				l[i] = all[draw.Intn(len(all))]
			}
		}
		wantLists(t, l)
	}
}

// P3.3: long lists, of which each number is as great as may be: the sum on the way leaves 64 bits a thousandfold.
func TestLongLists(t *testing.T) {
	for _, c := range []struct {
		there, back int64
	}{{greatest, -greatest}, {m, greatest}, {greatest, m}, {1 << 62, -1 << 62}} {
		l := append(slices.Repeat([]int64{c.there}, 5000), slices.Repeat([]int64{c.back}, 5000)...)
		got, e := checked.Sum(l...)
		want(t, "the sum there and back", got, e, 5000*(c.there+c.back), api.OK)
		got, e = checked.Sum(l[:9990]...)
		want(t, "the sum not all the way back", got, e, 0, api.ErrOver)
		got, e = checked.Product(l...)
		want(t, "the product", got, e, 0, api.ErrOver)
		got, e = checked.Product(append(l, 0)...)
		want(t, "the product with a nought behind", got, e, 0, api.OK)
	}
	// Two to the power 64 is nothing in 64 bits: what wraps round must not come back.
	twos := slices.Repeat([]int64{2}, 200)
	for n := range twos {
		got, e := checked.Product(twos[:n]...)
		if n < 63 {
			want(t, "a power of two", got, e, 1<<n, api.OK)
		} else {
			want(t, "a power of two that is too great", got, e, 0, api.ErrOver)
		}
	}
	ones := slices.Repeat([]int64{-1}, 10001)
	got, e := checked.Product(ones...)
	want(t, "a product of -1 alone", got, e, -1, api.OK)
	got, e = checked.Sum(ones...)
	want(t, "a sum of -1 alone", got, e, -10001, api.OK)
}
