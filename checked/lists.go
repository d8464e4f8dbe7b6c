package checked

import (
	"math/bits"

	"chordmail/api"
)

// Sum answers the sum of all numbers, if it is within 64 bits, whatever the sums on the way are (P3.3).
func Sum(l ...int64) (int64, api.Errno) {
	// 128 bits hold the sum of any list, so the order is not to be seen.
	var high, low, carry uint64
	for _, n := range l {
		low, carry = bits.Add64(low, uint64(n), 0)
		high, _ = bits.Add64(high, upper(n), carry)
	}
	sum := int64(low)
	if high != upper(sum) {
		return 0, api.ErrOver
	}
	return sum, api.OK
}

// upper is what stands ahead of n's 64 bits where it is written in 128.
func upper(n int64) uint64 { return uint64(n >> 63) }

// Product answers the product of all numbers, if it is within 64 bits, whatever the products on the way are (P3.3).
func Product(l ...int64) (int64, api.Errno) {
	size, minus, over := uint64(1), false, false
	for _, n := range l {
		if n == 0 {
			return 0, api.OK
		}
		_, factor, below := apart(1, n)
		high, low := bits.Mul64(size, factor)
		// No number but 0 makes a product's size less again: what is too great here stays so.
		over = over || high != 0
		size, minus = low, minus != below
	}
	if over {
		return 0, api.ErrOver
	}
	return together(size, minus)
}
