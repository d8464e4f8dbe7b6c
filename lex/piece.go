package lex

import (
	"bytes"
	"math"
	"math/bits"
	"strconv"

	"chordmail/api"
)

// name tells the name that the bytes are.
func name(piece []byte) (string, api.Errno) {
	if len(piece) > api.MaxName {
		return "", api.ErrLexName
	}
	return string(piece), api.OK
}

// whole tells the number that digits are. Noughts ahead are refused: each number has one form.
func whole(digits []byte) (int64, api.Errno) {
	n, err := strconv.ParseInt(string(digits), 10, 64)
	if err != nil || len(digits) > 1 && digits[0] == '0' {
		return 0, api.ErrLexNumber
	}
	return n, api.OK
}

// scaled tells the real that digits, a p, perhaps a -, and perhaps digits are.
func scaled(piece []byte) (float64, api.Errno) {
	before, behind, _ := bytes.Cut(piece, []byte{'p'})
	digits, below := bytes.CutPrefix(behind, []byte{'-'})
	m, faultM := whole(before)
	e, faultE := whole(digits)
	if faultM != api.OK || faultE != api.OK || below && e == 0 {
		return 0, api.ErrLexNumber
	}
	if below {
		e = -e
	}
	if !oneForm(m, e) {
		return 0, api.ErrLexNumber
	}
	// No rounding: an M below 2^53 fits at each E that is let through.
	return math.Ldexp(float64(m), int(e)), api.OK
}

// oneForm tells whether m times 2 to the power e is a finite real, in the only form that a text may give it.
func oneForm(m, e int64) bool {
	if m == 0 {
		return e == 0
	}
	if m%2 == 0 || m >= 1<<53 || e < -1074 || e > 1023 {
		return false
	}
	return bits.Len64(uint64(m))+int(e) <= 1024
}
