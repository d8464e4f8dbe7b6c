package value_test

import (
	"math"
	"math/big"
	"math/rand"
	"regexp"
	"strconv"
	"strings"

	"chordmail/api"
)

// The reference reads the chapter's words as patterns and reckons with big numbers, so that it shares no step with the package.
const realPattern = `nan|-?inf|-?0p0|-?[1-9][0-9]*p(?:0|-?[1-9][0-9]*)`

var (
	ints  = regexp.MustCompile(`\A(?:0|-?[1-9][0-9]*)\z`)
	reals = regexp.MustCompile(`\A(?:` + realPattern + `)\z`)
	comps = regexp.MustCompile(`\A\((` + realPattern + `),(` + realPattern + `)\)\z`)
	texts = regexp.MustCompile(`\A"((?:[ !#-\[\]-~]|\\["\\]|\\x(?:[01][0-9a-f]|7f|[89a-f][0-9a-f]))*)"\z`)
	parts = regexp.MustCompile(`\\["\\]|\\x[0-9a-f]{2}|.`)
)

// referenceParse tells the value whose text s is; false, if there is none.
func referenceParse(s string) (api.Value, bool) {
	if ints.MatchString(s) {
		n, _ := new(big.Int).SetString(s, 10)
		if !n.IsInt64() {
			return api.Value{}, false
		}
		return whole(n.Int64()), true
	}
	if reals.MatchString(s) {
		f, ok := referenceReal(s)
		if !ok {
			return api.Value{}, false
		}
		return scaled(f), true
	}
	if m := comps.FindStringSubmatch(s); m != nil {
		re, okRe := referenceReal(m[1])
		im, okIm := referenceReal(m[2])
		if !okRe || !okIm {
			return api.Value{}, false
		}
		return pair(re, im), true
	}
	if m := texts.FindStringSubmatch(s); m != nil {
		text := parts.ReplaceAllStringFunc(m[1], referencePart)
		if len(text) > 256 {
			return api.Value{}, false
		}
		return said(text), true
	}
	if s == "true" || s == "false" {
		return truth(s == "true"), true
	}
	return api.Value{}, false
}

// referenceReal reads what the pattern takes; false, if M is even, or it is no real's size.
func referenceReal(s string) (float64, bool) {
	size, below := strings.CutPrefix(s, "-")
	f := math.NaN()
	switch size {
	case "nan":
	case "inf":
		f = math.Inf(1)
	case "0p0":
		f = 0
	default:
		m, e, _ := strings.Cut(size, "p")
		n, _ := new(big.Int).SetString(m, 10)
		power, err := strconv.Atoi(e)
		if err != nil || power < -1074 || power > 1023 || n.Bit(0) == 0 || n.BitLen() > 53 {
			return 0, false
		}
		exact := big.Exact
		if f, exact = new(big.Float).SetMantExp(new(big.Float).SetInt(n), power).Float64(); exact != big.Exact {
			return 0, false
		}
	}
	if below {
		f = math.Copysign(f, -1)
	}
	return f, true
}

func referencePart(p string) string {
	if len(p) == 4 {
		n, _ := strconv.ParseUint(p[2:], 16, 8)
		return string([]byte{byte(n)})
	}
	return p[len(p)-1:]
}

// referencePrint tells a value's text, of one that may be.
func referencePrint(v api.Value) string {
	switch v.Kind {
	case 1:
		return big.NewInt(v.Int).String()
	case 2:
		return referencePrintReal(v.Real)
	case 3:
		return "(" + referencePrintReal(real(v.Comp)) + "," + referencePrintReal(imag(v.Comp)) + ")"
	case 4:
		var b strings.Builder
		for _, c := range []byte(v.Text) {
			switch {
			case c == '"' || c == '\\':
				b.WriteString(`\` + string(rune(c)))
			case c < 32 || c > 126:
				b.WriteString(`\x` + strconv.FormatInt(int64(c)+256, 16)[1:])
			default:
				b.WriteByte(c)
			}
		}
		return `"` + b.String() + `"`
	}
	return strconv.FormatBool(v.Int == 1)
}

// referencePrintReal has M and E of the number of bits that the real needs.
func referencePrintReal(f float64) string {
	switch {
	case f != f:
		return "nan"
	case f > math.MaxFloat64:
		return "inf"
	case f < -math.MaxFloat64:
		return "-inf"
	case f == 0 && math.Signbit(f):
		return "-0p0"
	case f == 0:
		return "0p0"
	}
	x := new(big.Float).SetFloat64(f)
	bits := int(x.MinPrec())
	m := new(big.Float)
	e := x.MantExp(m)
	n, _ := m.SetMantExp(m, bits).Int(nil)
	return n.String() + "p" + strconv.Itoa(e-bits)
}

func whole(n int64) api.Value { return api.Value{Kind: 1, Int: n} }

func scaled(f float64) api.Value { return api.Value{Kind: 2, Real: f} }

func pair(re, im float64) api.Value { return api.Value{Kind: 3, Comp: complex(re, im)} }

func said(s string) api.Value { return api.Value{Kind: 4, Text: s} }

func truth(b bool) api.Value {
	if b {
		return api.Value{Kind: 5, Int: 1}
	}
	return api.Value{Kind: 5}
}

var (
	nan   = math.NaN()
	inf   = math.Inf(1)
	minus = math.Copysign(0, -1)
)

// edgeReals are the reals at which something begins or ends, with both signs.
func edgeReals() []float64 {
	l := []float64{nan, inf, 0, 1, 1.5, 0.1, 2, 2.5, 3, 9, 10, 99, 1e15, 1e16, 1e300, 1e-300, 1 << 52, 1<<53 - 1, 1 << 53, 1<<53 + 2,
		math.SmallestNonzeroFloat64, math.Ldexp(3, -1074), math.Ldexp(1, -1073), math.Ldexp(1<<52-1, -1074), math.Ldexp(1, -1022), math.Ldexp(1<<52+1, -1074), math.Ldexp(1<<53-1, -1074),
		math.Ldexp(1, 971), math.Ldexp(1, 1000), math.Ldexp(1, 1023), math.Ldexp(3, 1022), math.Nextafter(math.MaxFloat64, 0), math.MaxFloat64}
	for _, f := range l[1:] {
		l = append(l, -f)
	}
	return append(l, minus)
}

// edgeValues are values that may be, no two of them the same.
func edgeValues() []api.Value {
	l := []api.Value{truth(false), truth(true)}
	for _, n := range []int64{0, 1, -1, 9, 10, 11, -9, -10, 1 << 53, 1<<53 + 1, math.MaxInt64, math.MaxInt64 - 1, math.MinInt64, math.MinInt64 + 1} {
		l = append(l, whole(n))
	}
	seen := map[uint64]bool{}
	var once []float64
	for _, f := range edgeReals() {
		if bits := math.Float64bits(f); !seen[bits] {
			seen[bits] = true
			once = append(once, f)
		}
	}
	for _, f := range once {
		l = append(l, scaled(f))
	}
	few := []float64{nan, -inf, -1, minus, 0, math.SmallestNonzeroFloat64, 1.5, inf}
	for _, re := range few {
		for _, im := range few {
			l = append(l, pair(re, im))
		}
	}
	for _, s := range []string{"", "a", "ab", "b", "A", "aa", "a\x00", "\"", "\\", "\\\"", `\x41`, `\x00`, "true", "0", "1p0", "(", "nan", " ", "~", "\x1f", "\x7f", "\x80", "\xff", "é", "a\"b\\\x00", strings.Repeat("z", 255), strings.Repeat("z", 256), strings.Repeat("\xff", 256), strings.Repeat("\"", 256)} {
		l = append(l, said(s))
	}
	return l
}

// never are values that may not be.
func never() []api.Value {
	return []api.Value{
		{}, {Kind: 6}, {Kind: -1}, {Kind: 7, Int: 1, Real: 1, Comp: 1, Text: "a"}, {Kind: math.MaxInt}, {Kind: math.MinInt}, {Int: 1, Real: 2, Text: "x"}, {Kind: 1 << 32}, {Kind: 1<<32 + 1}, {Kind: 257},
		{Kind: 4, Text: strings.Repeat("a", 257)}, {Kind: 4, Text: strings.Repeat("\x00", 70000)},
		{Kind: 5, Int: 2}, {Kind: 5, Int: -1}, {Kind: 5, Int: math.MaxInt64}, {Kind: 5, Int: math.MinInt64}, {Kind: 5, Int: 1 << 32}, {Kind: 5, Int: 1<<32 + 1}, {Kind: 5, Int: 256},
	}
}

// dressed is v with something in each field that its kind does not name.
func dressed(v api.Value, n int64) api.Value {
	d := api.Value{Kind: v.Kind, Int: n, Real: float64(n) + 0.5, Comp: complex(nan, float64(n)), Text: strings.Repeat("t", int(n&3)*200)}
	switch v.Kind {
	case 1, 5:
		d.Int = v.Int
	case 2:
		d.Real = v.Real
	case 3:
		d.Comp = v.Comp
	case 4:
		d.Text = v.Text
	}
	return d
}

// lotReal is any real: of any bits, or of few ones, or an edge.
func lotReal(lot *rand.Rand) float64 {
	switch lot.Intn(4) {
	case 0:
		return math.Float64frombits(lot.Uint64())
	case 1:
		return math.Ldexp(float64(lot.Intn(200)-100), lot.Intn(2200)-1100)
	case 2:
		return float64(lot.Intn(5) - 2)
	}
	l := edgeReals()
	return l[lot.Intn(len(l))]
}

// lotValue is any value that may be; few enough of them that some are the same.
func lotValue(lot *rand.Rand) api.Value {
	switch lot.Intn(6) {
	case 0:
		return whole(int64(lot.Uint64()) >> lot.Intn(64))
	case 1:
		return scaled(lotReal(lot))
	case 2:
		return pair(lotReal(lot), lotReal(lot))
	case 3:
		b := make([]byte, lot.Intn(257)>>lot.Intn(9))
		for i := range b {
			b[i] = byte(lot.Intn(256))
		}
		return said(string(b))
	case 4:
		return truth(lot.Intn(2) == 0)
	}
	l := edgeValues()
	return l[lot.Intn(len(l))]
}

// lotValues are many values, the same ones in every run.
func lotValues(seed int64, many int) []api.Value {
	lot := rand.New(rand.NewSource(seed))
	l := make([]api.Value, many)
	for i := range l {
		l[i] = lotValue(lot)
	}
	return l
}

// shortTexts calls f with every text of at most so many of the pieces.
func shortTexts(pieces []string, most int, f func(s string)) {
	var grow func(s string, left int)
	grow = func(s string, left int) {
		f(s)
		if left == 0 {
			return
		}
		for _, p := range pieces {
			grow(s+p, left-1)
		}
	}
	grow("", most)
}

// nearTexts calls f with s and with every text that comes of it by a byte less, another byte, or a byte more.
func nearTexts(s string, f func(s string)) {
	const bytes = "0129pxXaAfnt-+.,_()\"\\ \n\x00\x7f\xff"
	f(s)
	for i := range len(s) {
		f(s[:i] + s[i+1:])
	}
	for _, c := range []byte(bytes) {
		for i := range len(s) {
			f(s[:i] + string([]byte{c}) + s[i+1:])
		}
		for i := range len(s) + 1 {
			f(s[:i] + string([]byte{c}) + s[i:])
		}
	}
}

// allTexts calls f with a choice of texts of every sort, some of them values' texts, most of them almost such.
func allTexts(f func(s string)) {
	shortTexts([]string{"0", "1", "2", "7", "p", "-", "+", " ", "."}, 5, f)
	shortTexts([]string{"\"", "\\", "x", "0", "7", "f", "A", "a", "\x00"}, 5, f)
	shortTexts([]string{"(", ")", ",", "0p0", "1p1", "-", "nan", "inf", "1", "2p0"}, 5, f)
	shortTexts([]string{"nan", "inf", "true", "false", "NaN", "Inf", "True", "-", "+", "t", "n"}, 3, f)
	for _, v := range append(edgeValues(), lotValues(4, 400)...) {
		if s := referencePrint(v); len(s) < 60 {
			nearTexts(s, f)
		}
	}
}
