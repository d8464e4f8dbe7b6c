package value_test

import (
	"math"
	"strconv"
	"strings"
	"testing"

	"chordmail/api"
	"chordmail/value"
)

// exactly tells whether two values have the same bits in all fields.
func exactly(a, b api.Value) bool {
	bits := math.Float64bits
	return a.Kind == b.Kind && a.Int == b.Int && a.Text == b.Text && bits(a.Real) == bits(b.Real) &&
		bits(real(a.Comp)) == bits(real(b.Comp)) && bits(imag(a.Comp)) == bits(imag(b.Comp))
}

// oneNaN is v with math.NaN() for all that is no number.
func oneNaN(v api.Value) api.Value {
	one := func(f float64) float64 {
		if f != f {
			return nan
		}
		return f
	}
	v.Real, v.Comp = one(v.Real), complex(one(real(v.Comp)), one(imag(v.Comp)))
	return v
}

// otherNaNs are what is no number, in forms other than math.NaN's.
func otherNaNs() []float64 {
	return []float64{math.Float64frombits(0x7ff8000000000000), math.Float64frombits(0xfff8000000000001), math.Float64frombits(0x7ff0000000000001), math.Float64frombits(0xffffffffffffffff), -nan}
}

func wantPrint(t *testing.T, v api.Value, want string) {
	t.Helper()
	if s := value.Print(v); s != want {
		t.Errorf("Print of %.80v: %.80q; want %.80q", v, s, want)
	}
}

func wantParse(t *testing.T, s string, want api.Value) {
	t.Helper()
	if v, e := value.Parse(s); e != api.OK || !exactly(v, want) {
		t.Errorf("Parse of %.80q: %.80v, %v; want %.80v", s, v, e, want)
	}
}

func wantRefused(t *testing.T, s string) {
	t.Helper()
	if v, e := value.Parse(s); e != api.ErrValueText || !exactly(v, api.Value{}) {
		t.Errorf("Parse of %.80q: %.80v, %v; want the error %v", s, v, e, api.ErrValueText)
	}
}

// P2.1: which values may be, whatever stands in the other fields.
func TestMay(t *testing.T) {
	for _, v := range edgeValues() {
		for n := range int64(4) {
			if !value.May(dressed(v, n)) {
				t.Errorf("May of %.80v: false", dressed(v, n))
			}
		}
	}
	for _, v := range never() {
		for n := range int64(4) {
			if value.May(dressed(v, n)) {
				t.Errorf("May of %.80v: true", dressed(v, n))
			}
		}
	}
}

// P2.1: Plain keeps the field of the kind alone, bit by bit.
func TestPlain(t *testing.T) {
	for _, v := range append(edgeValues(), lotValues(1, 2000)...) {
		want := oneNaN(v)
		for n := range int64(4) {
			if p := value.Plain(dressed(v, n)); !exactly(p, want) {
				t.Errorf("Plain of %.80v: %.80v; want %.80v", dressed(v, n), p, want)
			}
		}
	}
	for _, v := range never() {
		for n := range int64(4) {
			if p := value.Plain(dressed(v, n)); !exactly(p, api.Value{}) {
				t.Errorf("Plain of %.80v: %.80v", dressed(v, n), p)
			}
		}
	}
}

// P2.1: what is no number is math.NaN(), alone and as a part; -0 and the other part stay.
func TestPlainReals(t *testing.T) {
	for _, f := range append(otherNaNs(), nan) {
		if p := value.Plain(scaled(f)); !exactly(p, scaled(nan)) {
			t.Errorf("Plain of the bits %x: %x", math.Float64bits(f), math.Float64bits(p.Real))
		}
		for _, g := range edgeReals() {
			if p := value.Plain(pair(f, g)); !exactly(p, pair(nan, g)) {
				t.Errorf("Plain of no number and %v: %v", g, p)
			}
			if p := value.Plain(dressed(pair(g, f), 3)); !exactly(p, pair(g, nan)) {
				t.Errorf("Plain of %v and no number: %v", g, p)
			}
		}
	}
	for _, f := range edgeReals() {
		if p := value.Plain(scaled(f)); !exactly(p, scaled(f)) {
			t.Errorf("Plain of %v: %v", f, p)
		}
		for _, g := range edgeReals() {
			if p := value.Plain(pair(f, g)); !exactly(p, pair(f, g)) {
				t.Errorf("Plain of %v and %v: %v", f, g, p)
			}
		}
	}
}

// inOrder are values, each of which stands ahead of all behind it.
func inOrder() []api.Value {
	l := []api.Value{{}, whole(math.MinInt64), whole(math.MinInt64 + 1), whole(-10), whole(-9), whole(-1), whole(0), whole(1), whole(5), whole(1 << 53), whole(1<<53 + 1), whole(math.MaxInt64)}
	f := []float64{nan, -inf, -math.MaxFloat64, -2, -1.5, -1, -math.Ldexp(1, -1022), -math.SmallestNonzeroFloat64, minus, 0, math.SmallestNonzeroFloat64, math.Ldexp(1, -1022), 1, 1.5, 2, 1 << 53, math.MaxFloat64, inf}
	for _, x := range f {
		l = append(l, scaled(x))
	}
	for _, x := range f {
		for _, y := range f {
			l = append(l, pair(x, y))
		}
	}
	for _, s := range []string{"", "\x00", "\x00\x00", " ", "A", "B", "a", "a\x00", "aa", "ab", "b", "\x7f", "\x80", "é", "\xff", "\xff\xff", strings.Repeat("\xff", 255), strings.Repeat("\xff", 256)} {
		l = append(l, said(s))
	}
	return append(l, truth(false), truth(true))
}

// P2.2: the order, and that only the field of the kind is looked at.
func TestCompare(t *testing.T) {
	l := inOrder()
	for i, a := range l {
		for k, b := range l {
			want := 0
			if i < k {
				want = -1
			} else if i > k {
				want = 1
			}
			n := int64(i+k) & 3
			if got := value.Compare(a, b); got != want {
				t.Errorf("Compare of %.80v and %.80v: %d; want %d", a, b, got, want)
			}
			if got := value.Compare(dressed(a, n), dressed(b, 3-n)); got != want {
				t.Errorf("Compare of %.80v and %.80v: %d; want %d", dressed(a, n), dressed(b, 3-n), got, want)
			}
			if got := value.Same(a, b); got != (want == 0) {
				t.Errorf("Same of %.80v and %.80v: %v", a, b, got)
			}
			if got := value.Same(dressed(a, n), dressed(b, 3-n)); got != (want == 0) {
				t.Errorf("Same of %.80v and %.80v: %v", dressed(a, n), dressed(b, 3-n), got)
			}
		}
	}
}

// P2.2: values that may not be are alike, and ahead of all others.
func TestCompareNever(t *testing.T) {
	for _, a := range never() {
		for _, b := range never() {
			if value.Compare(a, b) != 0 || !value.Same(a, b) {
				t.Errorf("Compare of %.80v and %.80v: %d", a, b, value.Compare(a, b))
			}
		}
		for _, b := range edgeValues() {
			if value.Compare(a, b) != -1 || value.Compare(b, a) != 1 || value.Same(a, b) || value.Same(b, a) {
				t.Errorf("Compare of %.80v and %.80v: %d", a, b, value.Compare(a, b))
			}
		}
	}
}

// P2.2: all that is no number is alike, alone and as a part.
func TestCompareNaNs(t *testing.T) {
	for _, f := range otherNaNs() {
		for _, c := range [][2]api.Value{{scaled(f), scaled(nan)}, {pair(f, 1), pair(nan, 1)}, {pair(1, f), pair(1, nan)}, {pair(f, f), pair(nan, nan)}} {
			if value.Compare(c[0], c[1]) != 0 || value.Compare(c[1], c[0]) != 0 || !value.Same(c[0], c[1]) {
				t.Errorf("Compare of %v and %v, the bits %x: %d", c[0], c[1], math.Float64bits(f), value.Compare(c[0], c[1]))
			}
		}
		if value.Compare(scaled(f), scaled(-inf)) != -1 || value.Compare(scaled(-inf), scaled(f)) != 1 || value.Compare(pair(f, 1), pair(nan, 0)) != 1 {
			t.Errorf("what is no number, of the bits %x, is not first", math.Float64bits(f))
		}
	}
}

// P2.3: the sizes.
func TestSize(t *testing.T) {
	for _, v := range append(edgeValues(), never()...) {
		want := 0
		switch {
		case v.Kind == 1 || v.Kind == 2:
			want = 8
		case v.Kind == 3:
			want = 16
		case v.Kind == 4 && len(v.Text) <= 256:
			want = len(v.Text)
		}
		for n := range int64(4) {
			if got := value.Size(dressed(v, n)); got != want {
				t.Errorf("Size of %.80v: %d; want %d", dressed(v, n), got, want)
			}
		}
	}
	if n := value.Size(said("é\x00")); n != 3 {
		t.Errorf("Size counts bytes: %d", n)
	}
}

// P2.1 to P2.5: what is in the chapter's table of examples.
func TestExamples(t *testing.T) {
	wantPrint(t, whole(0), "0")
	wantPrint(t, whole(-9223372036854775808), "-9223372036854775808")
	wantPrint(t, scaled(1.5), "3p-1")
	wantPrint(t, scaled(-0.1), "-3602879701896397p-55")
	wantPrint(t, scaled(math.Ldexp(1, 1000)), "1p1000")
	wantPrint(t, scaled(0), "0p0")
	wantPrint(t, scaled(minus), "-0p0")
	wantPrint(t, scaled(math.SmallestNonzeroFloat64), "1p-1074")
	wantPrint(t, scaled(math.MaxFloat64), "9007199254740991p971")
	wantPrint(t, pair(1, minus), "(1p0,-0p0)")
	wantPrint(t, said("a\"b\\\x00"), `"a\"b\\\x00"`)
	for _, s := range []string{"2p0", "3p01", "+3", "00", "1p1024", "(1p0,2)", `"\x41"`} {
		wantRefused(t, s)
	}
	wantParse(t, "-0p0", scaled(minus))
	wantParse(t, "(nan,-inf)", pair(nan, -inf))
	wantParse(t, "true", api.Value{Kind: api.Bool, Int: 1})
	for _, c := range [][2]api.Value{{scaled(nan), scaled(-inf)}, {scaled(minus), scaled(0)}, {whole(5), scaled(1)}} {
		if n := value.Compare(c[0], c[1]); n != -1 {
			t.Errorf("Compare of %v and %v: %d", c[0], c[1], n)
		}
	}
	if value.Size(said("abc")) != 3 || value.Size(pair(0, 0)) != 16 || value.Size(truth(true)) != 0 {
		t.Error("the sizes of the examples")
	}
	if k, ok := value.Type("comp"); k != 3 || !ok || value.Name(9) != "" {
		t.Errorf("Type of comp: %d, %v; Name of 9: %q", k, ok, value.Name(9))
	}
}

// P2.4: the texts of what has a text of its own, and of ints and bools.
func TestTexts(t *testing.T) {
	for s, v := range map[string]api.Value{
		"nan": scaled(nan), "inf": scaled(inf), "-inf": scaled(-inf), "0p0": scaled(0), "-0p0": scaled(minus),
		"1p0": scaled(1), "-1p0": scaled(-1), "1p1": scaled(2), "-5p-1": scaled(-2.5), "-9007199254740991p971": scaled(-math.MaxFloat64), "-1p-1074": scaled(-math.SmallestNonzeroFloat64),
		"0": whole(0), "1": whole(1), "-1": whole(-1), "10": whole(10), "-10": whole(-10), "9223372036854775807": whole(math.MaxInt64), "-9223372036854775808": whole(math.MinInt64),
		"true": truth(true), "false": truth(false),
		"(0p0,0p0)": pair(0, 0), "(-0p0,0p0)": pair(minus, 0), "(0p0,-0p0)": pair(0, minus), "(nan,nan)": pair(nan, nan), "(inf,-1p-1074)": pair(inf, -math.SmallestNonzeroFloat64),
		`""`: said(""), `"true"`: said("true"), `"\\x41"`: said(`\x41`), `" ~"`: said(" ~"), `"\x1f\x7f\x80\xff"`: said("\x1f\x7f\x80\xff"), `"\x0a\x09\x0d"`: said("\n\t\r"), `"\xc3\xa9"`: said("é"), `"'"`: said("'"), `"(1p0,2p0)"`: said("(1p0,2p0)"),
	} {
		wantPrint(t, v, s)
		wantPrint(t, dressed(v, 1), s)
		wantParse(t, s, v)
	}
	for _, f := range otherNaNs() {
		wantPrint(t, scaled(f), "nan")
		wantPrint(t, pair(f, 1), "(nan,1p0)")
		wantPrint(t, pair(minus, f), "(-0p0,nan)")
	}
	for _, v := range never() {
		wantPrint(t, v, "")
		wantPrint(t, dressed(v, 1), "")
	}
}

// P2.4: reals at each place where M or E have a digit more.
func TestRealLengths(t *testing.T) {
	ms := []int64{1, 3, 1<<53 - 1, 1<<53 - 3, 1<<52 - 1, 1<<52 + 1}
	for n := int64(10); n < 1<<53; n *= 10 {
		ms = append(ms, n-1, n+1)
	}
	for _, m := range ms {
		for _, e := range []int{-1074, -1073, -1001, -1000, -999, -101, -100, -99, -11, -10, -9, -1, 0, 1, 9, 10, 11, 99, 100, 101, 970, 971, 972, 999, 1000, 1001, 1022, 1023} {
			s := strconv.FormatInt(m, 10) + "p" + strconv.Itoa(e)
			f := math.Ldexp(float64(m), e)
			if math.IsInf(f, 0) {
				wantRefused(t, s)
				wantRefused(t, "-"+s)
				wantRefused(t, "("+s+",1p0)")
				continue
			}
			wantPrint(t, scaled(f), s)
			wantPrint(t, scaled(-f), "-"+s)
			wantPrint(t, pair(-f, f), "(-"+s+","+s+")")
			wantParse(t, s, scaled(f))
			wantParse(t, "-"+s, scaled(-f))
			wantParse(t, "(-"+s+","+s+")", pair(-f, f))
		}
	}
}

// P2.4: each byte alone, written as it must be, and written in every other way.
func TestBytes(t *testing.T) {
	for c := range 256 {
		s := string([]byte{byte(c)})
		itself := `"` + s + `"`
		slashed := `"\` + s + `"`
		digits := `"\x` + strconv.FormatInt(int64(c)+256, 16)[1:] + `"`
		want := digits
		if c == '"' || c == '\\' {
			want = slashed
		} else if 32 <= c && c <= 126 {
			want = itself
		}
		wantPrint(t, said(s), want)
		wantParse(t, want, said(s))
		for _, form := range []string{itself, slashed, digits, strings.ToUpper(digits), strings.ReplaceAll(strings.ToUpper(digits), "X", "x")} {
			if form != want {
				wantRefused(t, form)
			}
		}
		if s != `"` && s != `\` {
			wantRefused(t, s+`"a"`)
			wantRefused(t, `"a"`+s)
		}
	}
}

// P2.4: the edges of MaxText.
func TestLongTexts(t *testing.T) {
	for _, s := range []string{"a", "\"", "\\", "\x00", "\xff"} {
		quoted := referencePrint(said(s))
		part := quoted[1 : len(quoted)-1]
		long := strings.Repeat(s, 256)
		wantPrint(t, said(long), `"`+strings.Repeat(part, 256)+`"`)
		wantParse(t, `"`+strings.Repeat(part, 256)+`"`, said(long))
		wantPrint(t, said(long+s), "")
		wantRefused(t, `"`+strings.Repeat(part, 257)+`"`)
		wantRefused(t, `"`+strings.Repeat(part, 5000)+`"`)
	}
	wantRefused(t, `"`+strings.Repeat("a", 256))
	wantRefused(t, `"`+strings.Repeat("a", 256)+`" `)
}

// P2.4: texts that are no value's, or almost one's.
func TestParseRefused(t *testing.T) {
	for _, s := range []string{
		"", " ", "-", "+", "p", "()", "(", ")", ",", "a", "int", "Value", "null", "\x00",
		"00", "01", "007", "-0", "-00", "-01", "+0", "+1", "--1", "- 1", " 1", "1 ", "1\n", "1_000", "0x10", "0b1", "0o7", "1e5", "1.5", "1.", ".5", "12a",
		"9223372036854775808", "-9223372036854775809", "18446744073709551616", "18446744073709551617", "-18446744073709551617", strings.Repeat("9", 4000), "-" + strings.Repeat("1", 4000), strings.Repeat("0", 4000),
		"2p0", "4p1", "-2p0", "10p-1", "9007199254740992p0", "9007199254740993p0", "9007199254740993p1", "-9007199254740993p0", "9223372036854775807p0", "9223372036854775809p0", "36893488147419103233p0",
		"1p-1075", "1p1024", "3p1023", "9007199254740991p972", "9007199254740991p1023", "1p-9999", "1p9223372036854775807", "1p-9223372036854775808", "1p18446744073709551616", "-1p-18446744073709551616", "1p" + strings.Repeat("9", 4000), "3p-1075", "2p-1075", "4p-1076",
		"1p-0", "0p-0", "-0p-0", "0p1", "0p-1", "-0p1", "0p1024", "00p0", "01p0", "-01p0", "1p00", "1p01", "1p-01", "1p-00", "1p+1", "+1p0", "+0p0", "--1p0", "-+1p0", "1p--1", "1p", "-1p", "p1", "-p1", "1P0", "1p0p0", "1p0.", "1 p0", "1p 0", " 1p0", "1p0 ", "1p1p", "0x1p0",
		"NaN", "Nan", "NAN", "-nan", "+nan", "nan ", " nan", "nann", "Inf", "INF", "+inf", "+Inf", "infinity", "Infinity", "-Inf", "--inf", "inf ", "- inf", "infp0", "nanp0", "∞",
		"(1p0,2)", "(1,2p0)", "(1p0)", "(1p0,)", "(,1p0)", "(,)", "(1p0,1p0", "1p0,1p0)", "1p0,1p0", "((1p0,1p0))", "(1p0,1p0)) ", "(1p0,1p0))", "(1p0,1p0,1p0)", "(1p0, 1p0)", "( 1p0,1p0)", "(1p0 ,1p0)", "(1p0,1p0 )", "(1p0;1p0)", "(1p0+1p0)", "(2p0,1p0)", "(1p0,2p0)", "(+1p0,1p0)", "(1p0,-nan)", "(NaN,1p0)", "(1p0,1p0i)", "-(1p0,1p0)", "(true,false)", `("a","b")`, "(1p0,(1p0,1p0))", "[1p0,1p0]", "(1p1024,1p0)", "(1p0,1p-1075)",
		`"`, `"a`, `a"`, `"\`, `"\"`, `"\\\"`, `"""`, `"a"b"`, `"\x`, `"\x"`, `"\x0"`, `"\x0`, `"\x00`, `"\x0A"`, `"\xFF"`, `"\xAa"`, `"\X0a"`, `"\x41"`, `"\x22"`, `"\x5c"`, `"\x20"`, `"\x7e"`, `"\n"`, `"\t"`, `"\r"`, `"\0"`, `"\a"`, `"\'"`, `"\/"`, `"\u0041"`, `"\ "`, `"\x 1"`, `"\x+1"`, `"\x-1"`, `"\x1g"`, `"\xg1"`, "'a'", "`a`", "\"\n\"", "\"\x00\"", "\"\x7f\"", "\"\xff\"", `"é"`, `"" `, ` ""`, `""""`, `"a""b"`, "“a”", "\"\\\x00\"",
		"True", "TRUE", "False", "FALSE", "t", "f", "T", "F", "truE", "true ", " true", "truetrue", "true\x00", "!true", "yes",
	} {
		wantRefused(t, s)
	}
}

// P2.4: Parse held against the patterns of the reference.
func TestParseReference(t *testing.T) {
	taken := 0
	allTexts(func(s string) {
		want, ok := referenceParse(s)
		v, e := value.Parse(s)
		if ok != (e == api.OK) || !ok && e != api.ErrValueText || !exactly(v, want) {
			t.Fatalf("Parse of %q: %v, %v; want %v, %v", s, v, e, want, ok)
		}
		if ok {
			taken++
		}
	})
	if taken < 1000 {
		t.Errorf("just %d of the texts are values'", taken)
	}
}

// P2.4: Print held against the reference's big numbers.
func TestPrintReference(t *testing.T) {
	for i, v := range append(edgeValues(), lotValues(2, 20000)...) {
		wantPrint(t, dressed(v, int64(i)), referencePrint(v))
	}
}

// P2.5: names and kinds, and what is none.
func TestNames(t *testing.T) {
	names := []string{"", "int", "real", "comp", "text", "bool", "", ""}
	for kind, name := range names {
		if got := value.Name(kind); got != name {
			t.Errorf("Name of %d: %q; want %q", kind, got, name)
		}
		if k, ok := value.Type(name); ok != (name != "") || ok && k != kind || !ok && k != 0 {
			t.Errorf("Type of %q: %d, %v", name, k, ok)
		}
	}
	for _, kind := range []int{-1, -5, 9, 256, 257, 1 << 32, 1<<32 + 1, math.MaxInt, math.MinInt, math.MinInt + 1} {
		if got := value.Name(kind); got != "" {
			t.Errorf("Name of %d: %q", kind, got)
		}
	}
	for _, name := range []string{"Int", "INT", "int ", " int", "in", "ints", "integer", "int\x00", "float", "complex", "comp128", "string", "tex", "boo", "boolean", "true", "1", "0", "value", "kind", "none", strings.Repeat("int", 1000)} {
		if k, ok := value.Type(name); k != 0 || ok {
			t.Errorf("Type of %q: %d, %v", name, k, ok)
		}
	}
}
