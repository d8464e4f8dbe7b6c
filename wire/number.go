package wire

import "math"

// noNumber are the bits that stand for all that is no number.
const noNumber = 0x7ff8000000000001

// bytesOf are the bytes of n, the highest eight bits first.
func bytesOf(n uint64) [8]byte {
	var a [8]byte
	for i := range a {
		a[i] = byte(n >> (56 - 8*i))
	}
	return a
}

// addNumber adds a number that is within so many bytes.
func addNumber(b []byte, n uint64, size int) []byte {
	a := bytesOf(n)
	return append(b, a[len(a)-size:]...)
}

// number is the number that these bytes are.
func number(b []byte) uint64 {
	var n uint64
	for _, c := range b {
		n = n<<8 | uint64(c)
	}
	return n
}

func realBytes(f float64) [8]byte {
	if math.IsNaN(f) {
		return bytesOf(noNumber)
	}
	return bytesOf(math.Float64bits(f))
}

func addReal(b []byte, f float64) []byte {
	a := realBytes(f)
	return append(b, a[:]...)
}

// realOf is the real that these bytes are; false of what is no number in other bits than the ones that stand for it.
func realOf(a [8]byte) (float64, bool) {
	f := math.Float64frombits(number(a[:]))
	return f, realBytes(f) == a
}

// compOf is the complex number that these bytes are; false, if realOf is of either part.
func compOf(a [16]byte) (complex128, bool) {
	re, okRe := realOf([8]byte(a[:8]))
	im, okIm := realOf([8]byte(a[8:]))
	return complex(re, im), okRe && okIm
}
