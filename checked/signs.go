package checked

import (
	"math/bits"

	"chordmail/api"
)

// tooGreat is the first size that a number within 64 bits has only below 0.
const tooGreat = 1 << 63

// Mul answers the product, if it is within 64 bits (P3.1).
func Mul(a, b int64) (int64, api.Errno) {
	x, y, minus := apart(a, b)
	high, low := bits.Mul64(x, y)
	if high != 0 {
		return 0, api.ErrOver
	}
	return together(low, minus)
}

// Div answers the quotient toward nought, if it is within 64 bits (P3.2).
func Div(a, b int64) (int64, api.Errno) {
	if b == 0 {
		return 0, api.ErrZero
	}
	x, y, minus := apart(a, b)
	return together(x/y, minus)
}

// Rem answers what the quotient leaves, with a's sign (P3.2). It is within 64 bits even where the quotient is not.
func Rem(a, b int64) (int64, api.Errno) {
	if b == 0 {
		return 0, api.ErrZero
	}
	x, y, _ := apart(a, b)
	return together(x%y, a < 0)
}

// apart takes the signs off two numbers: it answers their sizes, which reach to 2^63, and whether just one of them is below 0.
func apart(a, b int64) (x, y uint64, minus bool) {
	x, y = uint64(a), uint64(b)
	switch {
	case a < 0 && b < 0:
		x, minus = -x, !minus
		fallthrough
	case b < 0:
		y, minus = -y, !minus
	case a < 0:
		x, minus = -x, !minus
	}
	return x, y, minus
}

// together puts a sign to a size. 2^63 is within with a minus alone.
func together(size uint64, minus bool) (int64, api.Errno) {
	switch {
	case minus && size <= tooGreat:
		return int64(-size), api.OK
	case !minus && size < tooGreat:
		return int64(size), api.OK
	}
	return 0, api.ErrOver
}
