package value

import (
	"math"
	"math/bits"
	"strconv"

	"chordmail/api"
)

// Print tells the value's text; "" of one that may not be (P2.4).
func Print(v api.Value) string {
	if !May(v) {
		return ""
	}
	switch v.Kind {
	case api.Int:
		return strconv.FormatInt(v.Int, 10)
	case api.Real:
		return printReal(v.Real)
	case api.Comp:
		return "(" + printReal(real(v.Comp)) + "," + printReal(imag(v.Comp)) + ")"
	case api.Text:
		return quote(v.Text)
	}
	if v.Int == 0 {
		return "false"
	}
	return "true"
}

func printReal(f float64) string {
	if math.IsNaN(f) {
		return "nan"
	}
	if math.Signbit(f) {
		return "-" + printMagnitude(-f)
	}
	return printMagnitude(f)
}

// printMagnitude tells the text of a real whose sign is none.
func printMagnitude(f float64) string {
	switch {
	case math.IsInf(f, 1):
		return "inf"
	case f == 0:
		return "0p0"
	}
	m, e := oddTimesPower(f)
	return strconv.FormatUint(m, 10) + "p" + strconv.Itoa(e)
}

// oddTimesPower tells the odd m and the e for which f, finite and above 0, is m times 2 to the e.
func oddTimesPower(f float64) (m uint64, e int) {
	const fraction = 52
	all := math.Float64bits(f)
	m, e = all&(1<<fraction-1), int(all>>fraction)
	// The reals nearest to 0 lack the leading bit, and have the power that goes with the exponent 1.
	if e > 0 {
		m |= 1 << fraction
		e--
	}
	even := bits.TrailingZeros64(m)
	return m >> even, e - 1074 + even
}

const hexDigits = "0123456789abcdef"

// quote tells a text's text.
func quote(s string) string {
	q := []byte{'"'}
	for i := range len(s) {
		switch c := s[i]; {
		case c == '"' || c == '\\':
			q = append(q, '\\', c)
		case ' ' <= c && c <= '~':
			q = append(q, c)
		default:
			q = append(q, '\\', 'x', hexDigits[c>>4], hexDigits[c&15])
		}
	}
	return string(append(q, '"'))
}
