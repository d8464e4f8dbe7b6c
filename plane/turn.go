package plane

// Turn answers a, turned k times by a quarter (P4.3).
func Turn(a complex128, k int) complex128 {
	x, y := real(a), imag(a)
	switch k & 3 { // the two last bits are Euclid's remainder by 4, of numbers below 0 too
	case 0:
		return a
	case 1:
		goto quarter
	case 2:
		goto half
	}
	// Three quarters are a half, and then a quarter: a sign that is changed twice is as it was, a nought's too.
	x, y = -x, -y
quarter:
	return complex(-y, x)
half:
	return complex(-x, -y)
}

// Four answers Fourier's sums of four numbers (P4.5).
func Four(l [4]complex128) [4]complex128 {
	var sums [4]complex128
	for k := range sums {
		sums[k] = Sum(Turn(l[0], 0), Turn(l[1], -k), Turn(l[2], -2*k), Turn(l[3], -3*k))
	}
	return sums
}
