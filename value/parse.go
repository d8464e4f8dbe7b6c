package value

import (
	"math"
	"strconv"
	"strings"

	"chordmail/api"
)

// Parse tells the value whose text s is (P2.4).
func Parse(s string) (api.Value, api.Errno) {
	v := read(s)
	// Each value has one text alone: so what reads may be lax, and whatever is no value's text is refused here.
	if !May(v) || Print(v) != s {
		return api.Value{}, api.ErrValueText
	}
	return v, api.OK
}

// read tells the value whose text s is, plain. Of what is no value's text it tells some value that has another text, or one that may not be.
func read(s string) api.Value {
	switch {
	case s == "false":
		return api.Value{Kind: api.Bool, Int: 0}
	case s == "true":
		return api.Value{Kind: api.Bool, Int: 1}
	case strings.HasPrefix(s, "\""):
		return api.Value{Kind: api.Text, Text: unquote(s)}
	case strings.HasPrefix(s, "("):
		return readComp(s)
	}
	if n, err := strconv.ParseInt(s, 10, 64); err == nil {
		return api.Value{Kind: api.Int, Int: n}
	}
	if f, ok := readReal(s); ok {
		return api.Value{Kind: api.Real, Real: f}
	}
	return api.Value{}
}

func readComp(s string) api.Value {
	first, rest, _ := strings.Cut(s[1:], ",")
	re, okRe := readReal(first)
	im, okIm := readReal(strings.TrimSuffix(rest, ")"))
	if !okRe || !okIm {
		return api.Value{}
	}
	return api.Value{Kind: api.Comp, Comp: complex(re, im)}
}

// readReal tells the real whose text s is, or, laxly, one near to what s says; false, if it says nothing.
func readReal(s string) (float64, bool) {
	switch s {
	case "nan":
		return math.NaN(), true
	case "inf":
		return math.Inf(1), true
	case "-inf":
		return math.Inf(-1), true
	case "-0p0": // no int keeps this sign
		return math.Copysign(0, -1), true
	}
	digits, power, _ := strings.Cut(s, "p")
	m, errM := strconv.ParseInt(digits, 10, 64)
	e, errE := strconv.Atoi(power)
	if errM != nil || errE != nil || e < -1074 || e > 1023 {
		return 0, false
	}
	return math.Ldexp(float64(m), e), true
}

// unquote tells the text whose text s is, which begins with a ".
func unquote(s string) string {
	var said []byte
	for rest := s[1:]; len(rest) > 1; {
		c, size := part(rest)
		said = append(said, c)
		rest = rest[size:]
	}
	return string(said)
}

// part tells the byte that stands first in rest, which has two bytes or more, and in how many bytes it is written.
func part(rest string) (c byte, size int) {
	if rest[0] != '\\' {
		return rest[0], 1
	}
	if rest[1] != 'x' || len(rest) < 4 {
		return rest[1], 2
	}
	high := strings.IndexByte(hexDigits, rest[2])
	low := strings.IndexByte(hexDigits, rest[3])
	return byte(max(high, 0)<<4 | max(low, 0)), 4
}
