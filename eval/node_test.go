package eval_test

import (
	"math"
	"slices"
	"strings"
	"testing"

	"chordmail/api"
)

// made is the least int, of which no literal tells.
const made = "(-9223372036854775807 - 1)"

// P7.1: the least int made by reckoning, and what is done with it.
func TestLeastInt(t *testing.T) {
	want(t, made, nil, whole(m))
	for text, v := range map[string]int64{
		made + " % -1": 0, made + " % 1": 0, made + " % 2": 0, made + " % 3": -2, made + " % 9223372036854775807": -1, made + " % " + made: 0, "1 % " + made: 1, "-1 % " + made: -1,
		made + " / 1": m, made + " / 2": m / 2, made + " / -2": 1 << 62, made + " / " + made: 1, "1 / " + made: 0, "-9223372036854775807 / " + made: 0, made + " / 9223372036854775807": -1,
		made + " * 1": m, "1 * " + made: m, made + " * 0": 0, "0 * " + made: 0, "-4611686018427387904 * 2": m, "4611686018427387904 * -2": m, "-4294967296 * 2147483648": m,
		made + " + 0": m, made + " - 0": m, made + " + 9223372036854775807": -1, made + " - -9223372036854775807": -1, made + " - " + made: 0, "-1 - " + made: greatest, "-(" + made + " + 1)": greatest,
	} {
		want(t, text, nil, whole(v))
	}
	for text, fault := range map[string]api.Errno{
		"-" + made: api.ErrOver, "--" + made: api.ErrOver, made + " / -1": api.ErrOver, made + " * -1": api.ErrOver, "-1 * " + made: api.ErrOver, made + " * 2": api.ErrOver, made + " * " + made: api.ErrOver, "0 - " + made: api.ErrOver,
		made + " / 0": api.ErrZero, made + " % 0": api.ErrZero, "0 / 0": api.ErrZero, "0 % 0": api.ErrZero, "7 % (3 - 3)": api.ErrZero, made + " - 1": api.ErrOver, made + " + -1": api.ErrOver, made + " + " + made: api.ErrOver,
		"-1 - 9223372036854775807 - 1": api.ErrOver, "9223372036854775807 + 1": api.ErrOver, "1 + 9223372036854775807": api.ErrOver, "9223372036854775807 - -1": api.ErrOver, "9223372036854775807 * 2": api.ErrOver, "9223372036854775807 * -2": api.ErrOver, "4294967296 * 2147483648": api.ErrOver, "9223372036854775807 * 9223372036854775807": api.ErrOver,
	} {
		wantFault(t, text, nil, fault)
	}
}

// edges are ints around which reckoning may go wrong.
func edges() []int64 {
	l := []int64{m, m + 1, m + 2, m / 2, m/2 - 1, greatest, greatest - 1, greatest / 2, 1 << 53, 1<<53 + 1, 3037000499, 3037000500}
	for n := int64(-3); n <= 3; n++ {
		l = append(l, n, 1<<32+n, -1<<32+n, 256+n)
	}
	return l
}

var comparisons = []string{"==", "!=", "<", "<=", ">", ">="}

// P7.1: all edges of ints with one another.
func TestInts(t *testing.T) {
	for _, op := range append([]string{"+", "-", "*", "/", "%"}, comparisons...) {
		e := parsed(t, "a "+op+" b")
		for _, a := range edges() {
			for _, b := range edges() {
				hold(t, e, sides(whole(a), whole(b)))
			}
		}
	}
	for _, text := range []string{"-a", "real(a)", "str(a)", "a - a", "-(a + 1)"} {
		for _, a := range edges() {
			hold(t, parsed(t, text), sides(whole(a), whole(0)))
		}
	}
	for _, c := range []struct{ a, b, quotient, rest int64 }{{7, 2, 3, 1}, {-7, 2, -3, -1}, {7, -2, -3, 1}, {-7, -2, 3, -1}, {1, 2, 0, 1}, {-1, 2, 0, -1}, {0, -5, 0, 0}, {6, -3, -2, 0}, {greatest, -1, -greatest, 0}} {
		want(t, "a / b", sides(whole(c.a), whole(c.b)), whole(c.quotient))
		want(t, "a % b", sides(whole(c.a), whole(c.b)), whole(c.rest))
	}
}

// reals are both noughts, what is no number, what is infinite, the least and the greatest ones, and ones whose sums, products and quotients are rounded.
func reals() []float64 {
	l := []float64{0, minus0, none, math.Float64frombits(0xfff8000000000001), math.Float64frombits(0x7ff0000000000001)}
	for _, x := range []float64{1, 1.5, 3, 0.1, 1 + 0x1p-27, least, 3 * least, 0x1p-1022, 0x1.fp511, 0x1.8p-540, math.MaxFloat64, infinite} {
		l = append(l, x, -x)
	}
	return l
}

// P7.1: all edges of reals with one another.
func TestReals(t *testing.T) {
	for _, op := range append([]string{"+", "-", "*", "/"}, comparisons...) {
		e := parsed(t, "a "+op+" b")
		for _, a := range reals() {
			for _, b := range reals() {
				hold(t, e, sides(scaled(a), scaled(b)))
			}
		}
	}
	for _, a := range reals() {
		hold(t, parsed(t, "-a"), sides(scaled(a), whole(0)))
		hold(t, parsed(t, "--a"), sides(scaled(a), whole(0)))
	}
	for _, c := range []struct {
		text string
		a, b float64
		v    float64
	}{
		{"-a", 0, 0, minus0}, {"-a", minus0, 0, 0}, {"0p0 - a", 0, 0, 0}, {"-a", infinite, 0, -infinite}, {"-a", none, 0, none}, {"-a", least, 0, -least},
		{"a + b", infinite, -infinite, none}, {"a + b", infinite, infinite, infinite}, {"a - b", infinite, infinite, none}, {"a + b", minus0, minus0, minus0}, {"a + b", minus0, 0, 0}, {"a - b", minus0, 0, minus0}, {"a - b", 0, 0, 0}, {"a - a", least, 0, 0}, {"a + b", math.MaxFloat64, math.MaxFloat64, infinite}, {"a + b", math.MaxFloat64, 0x1p969, math.MaxFloat64}, {"a + b", math.MaxFloat64, 0x1p970, infinite}, {"a + b", 1, 0x1p-53, 1}, {"a + b", 1 + 0x1p-52, 0x1p-53, 1 + 0x1p-51}, {"a - b", least, least, 0}, {"a + b", least, least, 2 * least},
		{"a * b", infinite, 0, none}, {"a * b", least, 0.5, 0}, {"a * b", least, -0.5, minus0}, {"a * b", 3 * least, 0.5, 2 * least}, {"a * b", math.MaxFloat64, 2, infinite}, {"a * b", minus0, 5, minus0},
		{"a / b", 1, 0, infinite}, {"a / b", 1, minus0, -infinite}, {"a / b", -1, 0, -infinite}, {"a / b", 0, 0, none}, {"a / b", infinite, infinite, none}, {"a / b", infinite, 0, infinite}, {"a / b", 5, -infinite, minus0}, {"a / b", least, 2, 0}, {"a / b", least, -2, minus0}, {"a / b", 1, least, infinite}, {"a / b", 1, 3, 0x1.5555555555555p-2}, {"a / b", 0, -3, minus0}, {"a / b", none, 1, none},
		// A product is rounded ahead of the sum that it stands in.
		{"a * b - 1p0 - 1p-26", 1 + 0x1p-27, 1 + 0x1p-27, 0}, {"a * a + b", 1 + 0x1p-27, -1 - 0x1p-26, 0}, {"b - a * a", 1 + 0x1p-27, 1 + 0x1p-26, 0}, {"a * b + a * b", 1 + 0x1p-27, 1 - 0x1p-27, 2},
	} {
		want(t, c.text, sides(scaled(c.a), scaled(c.b)), scaled(c.v))
	}
}

// P7.1: what is no number is equal to nothing and in no order; -0 and 0 are equal.
func TestComparisons(t *testing.T) {
	for _, other := range []float64{none, 0, minus0, 1, -1, infinite, -infinite, least} {
		for _, op := range comparisons {
			want(t, "a "+op+" b", sides(scaled(none), scaled(other)), truth(op == "!="))
			want(t, "a "+op+" b", sides(scaled(other), scaled(none)), truth(op == "!="))
		}
	}
	for _, c := range []struct {
		a, b  api.Value
		holds string
	}{
		{scaled(minus0), scaled(0), "== <= >="}, {scaled(0), scaled(minus0), "== <= >="}, {scaled(1), scaled(1), "== <= >="}, {scaled(-infinite), scaled(-math.MaxFloat64), "!= < <="}, {scaled(infinite), scaled(infinite), "== <= >="}, {scaled(least), scaled(0), "!= > >="}, {scaled(minus0), scaled(least), "!= < <="},
		{whole(3), whole(3), "== <= >="}, {whole(m), whole(greatest), "!= < <="}, {whole(greatest), whole(m), "!= > >="}, {whole(-1), whole(0), "!= < <="}, {whole(1<<53 + 1), whole(1 << 53), "!= > >="},
		{said(""), said(""), "== <= >="}, {said(""), said("\x00"), "!= < <="}, {said("a"), said("a\x00"), "!= < <="}, {said("ab"), said("a"), "!= > >="}, {said("a\xff"), said("b"), "!= < <="}, {said("\xff"), said("\x7f"), "!= > >="}, {said("\x80"), said("\xc3\xa9"), "!= < <="}, {said("Z"), said("a"), "!= < <="}, {said("10"), said("9"), "!= < <="}, {said("a\x00b"), said("a\x00c"), "!= < <="}, {said("\x00\xff"), said("\x00\xff"), "== <= >="},
	} {
		for _, op := range comparisons {
			want(t, "a "+op+" b", sides(c.a, c.b), truth(slices.Contains(strings.Fields(c.holds), op)))
		}
	}
	for _, a := range []bool{false, true} {
		for _, b := range []bool{false, true} {
			want(t, "a == b", sides(truth(a), truth(b)), truth(a == b))
			want(t, "a != b", sides(truth(a), truth(b)), truth(a != b))
			want(t, "!(a && b) == (!a || !b)", sides(truth(a), truth(b)), truth(true))
			wantFault(t, "a <= b", sides(truth(a), truth(b)), api.ErrType)
		}
	}
}

// P7.1: complex numbers part by part.
func TestComps(t *testing.T) {
	for _, c := range []struct {
		a, b  api.Value
		equal bool
	}{
		{pair(1, 2), pair(1, 2), true}, {pair(1, 2), pair(1, 3), false}, {pair(1, 2), pair(3, 2), false}, {pair(0, 0), pair(minus0, minus0), true}, {pair(0, minus0), pair(minus0, 0), true}, {pair(1, minus0), pair(1, 0), true}, {pair(minus0, 1), pair(0, 1), true},
		{pair(none, 0), pair(none, 0), false}, {pair(0, none), pair(0, none), false}, {pair(none, none), pair(none, none), false}, {pair(none, 1), pair(1, 1), false}, {pair(1, none), pair(1, 1), false}, {pair(infinite, -infinite), pair(infinite, -infinite), true}, {pair(infinite, 0), pair(-infinite, 0), false},
	} {
		want(t, "a == b", sides(c.a, c.b), truth(c.equal))
		want(t, "b == a", sides(c.a, c.b), truth(c.equal))
		want(t, "a != b", sides(c.a, c.b), truth(!c.equal))
	}
	for _, c := range []struct {
		text string
		a, b api.Value
		v    api.Value
	}{
		{"a + b", pair(1, 2), pair(3, -1), pair(4, 1)}, {"a - b", pair(1, 2), pair(3, -1), pair(-2, 3)}, {"a * b", pair(1, 2), pair(3, -1), pair(5, 5)}, {"a * b", pair(infinite, 0), pair(1, 0), pair(infinite, none)}, {"a + b", pair(infinite, minus0), pair(-infinite, minus0), pair(none, minus0)}, {"a - b", pair(0, minus0), pair(0, 0), pair(0, minus0)},
		{"-a", pair(0, minus0), pair(0, 0), pair(minus0, 0)}, {"-a", pair(none, infinite), pair(0, 0), pair(none, -infinite)}, {"-a", pair(3, -4), pair(0, 0), pair(-3, 4)}, {"--a", pair(minus0, 0), pair(0, 0), pair(minus0, 0)},
		{"re(a)", pair(minus0, 5), pair(0, 0), scaled(minus0)}, {"im(a)", pair(5, minus0), pair(0, 0), scaled(minus0)}, {"re(a)", pair(none, 5), pair(0, 0), scaled(none)}, {"im(a)", pair(5, -infinite), pair(0, 0), scaled(-infinite)},
		{"size2(a)", pair(3, 4), pair(0, 0), scaled(25)}, {"size2(a)", pair(minus0, minus0), pair(0, 0), scaled(0)}, {"size2(a)", pair(none, infinite), pair(0, 0), scaled(none)}, {"size2(a)", pair(0x1p512, 0), pair(0, 0), scaled(infinite)}, {"size2(a)", pair(1+0x1p-27, 0x1p-27), pair(0, 0), scaled(1 + 0x1p-26)},
		{"comp(im(a), re(a))", pair(minus0, none), pair(0, 0), pair(none, minus0)}, {"comp(re(a), im(b))", pair(1, 2), pair(3, infinite), pair(1, infinite)}, {"re(comp(-0p0, 1p0))", pair(0, 0), pair(0, 0), scaled(minus0)}, {"im(comp(1p0, 0p0 / 0p0))", pair(0, 0), pair(0, 0), scaled(none)},
	} {
		want(t, c.text, sides(c.a, c.b), c.v)
	}
	parts := []float64{0, minus0, none, infinite, -infinite, 1, -3, least, 0x1.fp511, 1 + 0x1p-27}
	for i, x := range parts {
		for k, y := range parts {
			a, b := pair(x, y), pair(parts[(i+k+3)%len(parts)], parts[(i*3+k)%len(parts)])
			for _, text := range []string{"a + b", "a - b", "a * b", "a == b", "a != b", "-a", "re(a)", "im(a)", "size2(a)", "comp(re(a), im(b))", "a * b + a"} {
				hold(t, parsed(t, text), sides(a, b))
			}
		}
	}
	wantFault(t, "a / b", sides(pair(1, 1), pair(1, 1)), api.ErrType)
	wantFault(t, "a < b", sides(pair(1, 1), pair(1, 1)), api.ErrType)
}

// P7.1: the real nearest to an int, of two as near the one whose last bit is 0.
func TestReal(t *testing.T) {
	const no = 1 << 53
	for n, x := range map[int64]float64{
		0: 0, 1: 1, -1: -1, no - 1: no - 1, no: no, no + 1: no, no + 2: no + 2, no + 3: no + 4, no + 4: no + 4, no + 5: no + 4, -no - 1: -no, -no - 2: -no - 2, -no - 3: -no - 4,
		1<<54 + 1: 1 << 54, 1<<54 + 2: 1 << 54, 1<<54 + 3: 1<<54 + 4, 1<<54 + 4: 1<<54 + 4, 1<<54 + 5: 1<<54 + 4, 1<<54 + 6: 1<<54 + 8, 1<<54 + 7: 1<<54 + 8,
		1<<62 + 256: 1 << 62, 1<<62 + 512: 1 << 62, 1<<62 + 513: 1<<62 + 1024, 1<<62 + 1536: 1<<62 + 2048, greatest: 1 << 63, greatest - 511: 1 << 63, greatest - 512: 1<<63 - 1024, greatest - 1: 1 << 63, m: -1 << 63, m + 1: -1 << 63, m + 512: -1 << 63, m + 513: -1<<63 + 1024,
	} {
		want(t, "real(n)", []api.Bind{bind("n", whole(n))}, scaled(x))
	}
	want(t, "real(9223372036854775807)", nil, scaled(1<<63))
	want(t, "real("+made+")", nil, scaled(-1<<63))
	want(t, "real(0) == -0p0", nil, truth(true))
	wantFault(t, "real(1 / 0)", nil, api.ErrZero)
}

// P7.1: len, at and str.
func TestTexts(t *testing.T) {
	odd := "\x00a\xff\xc3\xa9"
	full := strings.Repeat("\xfe", 256)
	at := func(text string, place int64) []api.Bind {
		return []api.Bind{bind("t", said(text)), bind("n", whole(place))}
	}
	for text, n := range map[string]int64{"": 0, "a": 1, odd: 5, "\x00": 1, full: 256} {
		want(t, "len(t)", at(text, 0), whole(n))
		for i := range n {
			want(t, "at(t, n)", at(text, i), whole(int64(text[i])))
		}
		for _, place := range []int64{-1, -n, -256, n, n + 1, 256, 257, 1 << 32, -1 << 32, 1<<32 + 1, greatest, m} {
			if place < 0 || place >= n {
				wantFault(t, "at(t, n)", at(text, place), api.ErrPlace)
			}
		}
	}
	want(t, `at("ab", 0)`, nil, whole(97))
	want(t, `at("ab", 1)`, nil, whole(98))
	want(t, `at("\xff", 0)`, nil, whole(255))
	want(t, `at("\x00", 0)`, nil, whole(0))
	wantFault(t, `at("ab", 2)`, nil, api.ErrPlace)
	wantFault(t, `at("ab", -1)`, nil, api.ErrPlace)
	wantFault(t, `at("", 0)`, nil, api.ErrPlace)
	wantFault(t, `at("ab", `+made+`)`, nil, api.ErrPlace)
	wantFault(t, `at("ab", 9223372036854775807)`, nil, api.ErrPlace)

	for n, text := range map[int64]string{0: "0", 7: "7", -7: "-7", 10: "10", -100: "-100", 1000000: "1000000", greatest: "9223372036854775807", m: "-9223372036854775808"} {
		want(t, "str(n)", at("", n), said(text))
		want(t, "len(str(n))", at("", n), whole(int64(len(text))))
	}
	want(t, "str(-0)", nil, said("0"))
	want(t, "str("+made+")", nil, said("-9223372036854775808"))
}

// P7.1: cat up to 256 bytes, and above.
func TestCat(t *testing.T) {
	long := strings.Repeat("\x00\xff\xc3", 86)
	for _, c := range []struct{ a, b int }{{0, 0}, {1, 0}, {0, 1}, {255, 0}, {0, 255}, {256, 0}, {0, 256}, {255, 1}, {1, 255}, {128, 127}, {128, 128}, {100, 156}, {256, 1}, {1, 256}, {129, 128}, {255, 2}, {2, 255}, {256, 256}} {
		a, b := long[:c.a], long[2:][:c.b]
		if c.a+c.b > 256 {
			wantFault(t, "cat(a, b)", sides(said(a), said(b)), api.ErrText)
			wantFault(t, "cat(cat(\"\", a), b)", sides(said(a), said(b)), api.ErrText)
			continue
		}
		want(t, "cat(a, b)", sides(said(a), said(b)), said(a+b))
		want(t, "len(cat(a, b))", sides(said(a), said(b)), whole(int64(c.a+c.b)))
		want(t, "cat(cat(a, \"\"), cat(\"\", b)) == cat(a, b)", sides(said(a), said(b)), truth(true))
	}
	want(t, `cat("a", "b")`, nil, said("ab"))
	want(t, `cat("b", "a")`, nil, said("ba"))
	want(t, `cat("\x00", "\xff")`, nil, said("\x00\xff"))
	want(t, `cat("", "")`, nil, said(""))
	want(t, `cat(str(1), str(-2))`, nil, said("1-2"))
	// What is too long on the way is an error, though less of it is asked for.
	wantFault(t, "len(cat(a, b)) > 0", sides(said(long[:256]), said("x")), api.ErrText)
}
