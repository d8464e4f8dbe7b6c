package lex_test

import (
	"bytes"
	"math"
	"slices"
	"strconv"
	"strings"
	"testing"

	"chordmail/api"
	"chordmail/lex"
)

func name(s string, at int) lex.Token {
	return lex.Token{Kind: lex.Name, Text: s, At: at, Size: len(s)}
}

func mark(s string, at int) lex.Token {
	return lex.Token{Kind: lex.Mark, Text: s, At: at, Size: len(s)}
}

func whole(n int64, at, size int) lex.Token {
	return lex.Token{Kind: lex.Int, Int: n, At: at, Size: size}
}

func scaled(f float64, at, size int) lex.Token {
	return lex.Token{Kind: lex.Real, Real: f, At: at, Size: size}
}

func said(s string, at, size int) lex.Token {
	return lex.Token{Kind: lex.Text, Text: s, At: at, Size: size}
}

// same also tells a real -0 from a real +0.
func same(a, b []lex.Token) bool {
	return slices.EqualFunc(a, b, func(x, y lex.Token) bool {
		return x == y && math.Signbit(x.Real) == math.Signbit(y.Real)
	})
}

// placeless is the list with all places at 0.
func placeless(l []lex.Token) []lex.Token {
	l = slices.Clone(l)
	for i := range l {
		l[i].At = 0
	}
	return l
}

func wantTokens(t *testing.T, text string, want ...lex.Token) {
	t.Helper()
	l, at, e := lex.Scan([]byte(text))
	if e != api.OK || at != 0 || !same(l, want) {
		t.Errorf("Scan of %.60q: %v, %d, %v; want %v", text, l, at, e, want)
	}
}

func wantFault(t *testing.T, text string, at int, fault api.Errno) {
	t.Helper()
	l, a, e := lex.Scan([]byte(text))
	if e != fault || a != at || len(l) != 0 {
		t.Errorf("Scan of %.60q: %v, %d, %v; want %d, %v", text, l, a, e, at, fault)
	}
}

// P1.1: what is in the chapter's table of examples.
func TestScanExamples(t *testing.T) {
	wantTokens(t, "a1_b 20 5p-1", name("a1_b", 0), whole(20, 5, 2), scaled(2.5, 8, 4))
	wantTokens(t, `"a\x0a\\"->_x # y`, said("a\n\\", 0, 9), mark("->", 9), mark("_", 11), name("x", 12))
	wantTokens(t, "<==", mark("<=", 0), mark("=", 2))
	wantTokens(t, "1.p", whole(1, 0, 1), mark(".", 1), name("p", 2))
	wantTokens(t, "0p0 1p-1074", scaled(0, 0, 3), scaled(math.SmallestNonzeroFloat64, 4, 7))
	wantFault(t, "a 07", 2, api.ErrLexNumber)
	wantFault(t, "a 7b", 2, api.ErrLexNumber)
	wantFault(t, "9223372036854775808", 0, api.ErrLexNumber)
	for _, s := range []string{"2p0", "1p-0", "1p1024", "3p", "0p1"} {
		wantFault(t, s, 0, api.ErrLexNumber)
	}
	wantFault(t, `x "a`, 2, api.ErrLexText)
	wantFault(t, `"\x41"`, 0, api.ErrLexText)
	wantFault(t, `"\n"`, 0, api.ErrLexText)
	wantFault(t, "a $", 2, api.ErrLexByte)
	wantFault(t, strings.Repeat("n", 33), 0, api.ErrLexName)
	wantTokens(t, "")
	wantFault(t, strings.Repeat(" ", 32769), 0, api.ErrLong)
}

// P1.1: what each byte is, alone.
func TestScanBytes(t *testing.T) {
	const letters, digits, oneByte, blank = "ABCDEFGHIJKLMNOPQRSTUVWXYZabcdefghijklmnopqrstuvwxyz", "0123456789", "(){},;:.&+-*/%<>!=_", " \t\n\r#"
	for c := range 256 {
		s := string([]byte{byte(c)})
		switch {
		case strings.Contains(letters, s):
			wantTokens(t, s, name(s, 0))
		case strings.Contains(digits, s):
			wantTokens(t, s, whole(int64(c-'0'), 0, 1))
		case strings.Contains(oneByte, s):
			wantTokens(t, s, mark(s, 0))
		case strings.Contains(blank, s):
			wantTokens(t, s)
		case s == "\"":
			wantFault(t, s, 0, api.ErrLexText)
		default:
			wantFault(t, s, 0, api.ErrLexByte)
		}
	}
}

// P1.1: blanks, and comments up to the next line or without an end.
func TestScanBlanks(t *testing.T) {
	wantTokens(t, " \t\r\na\n", name("a", 4))
	wantTokens(t, "#")
	wantTokens(t, "a#b\"$\x00\x80", name("a", 0))
	wantTokens(t, "#\n#\n##x\n")
	wantTokens(t, "# a \r b\n c", name("c", 9))
	wantTokens(t, `"#"#"`, said("#", 0, 3))
	wantFault(t, "a\vb", 1, api.ErrLexByte)
	wantFault(t, "\fa", 0, api.ErrLexByte)
	wantFault(t, "# b\n$", 4, api.ErrLexByte)
}

// P1.1: names, at the edge of MaxName.
func TestScanNames(t *testing.T) {
	long := strings.Repeat("nN_0", 8)
	wantTokens(t, long, name(long, 0))
	wantTokens(t, long+" a", name(long, 0), name("a", 33))
	wantFault(t, long+"_", 0, api.ErrLexName)
	wantFault(t, "1 "+long+"9", 2, api.ErrLexName)
	wantTokens(t, "a__9_", name("a__9_", 0))
	wantTokens(t, "_a", mark("_", 0), name("a", 1))
	wantTokens(t, "__", mark("_", 0), mark("_", 1))
	wantTokens(t, `a"b"c`, name("a", 0), said("b", 1, 3), name("c", 4))
	wantTokens(t, "true tag p0 x41", name("true", 0), name("tag", 5), name("p0", 9), name("x41", 12))
	wantFault(t, "a\xc3\xa4", 1, api.ErrLexByte)
}

// P1.1: ints, at the edges.
func TestScanInts(t *testing.T) {
	wantTokens(t, "0", whole(0, 0, 1))
	wantTokens(t, "10 9", whole(10, 0, 2), whole(9, 3, 1))
	wantTokens(t, "9223372036854775807", whole(math.MaxInt64, 0, 19))
	wantTokens(t, "-9223372036854775807", mark("-", 0), whole(math.MaxInt64, 1, 19))
	wantTokens(t, `1"a"2`, whole(1, 0, 1), said("a", 1, 3), whole(2, 4, 1))
	wantTokens(t, "1->p", whole(1, 0, 1), mark("->", 1), name("p", 3))
	for _, s := range []string{"00", "01", "0007", "18446744073709551616", "18446744073709551617", strings.Repeat("9", 4000), "0" + strings.Repeat("0", 4000), "1a", "1Z", "1_", "0x10", "1e5", "0_0"} {
		wantFault(t, s, 0, api.ErrLexNumber)
		wantFault(t, "+"+s+" ", 1, api.ErrLexNumber)
	}
}

// P1.1: reals: each finite one from 0 on has just one form.
func TestScanReals(t *testing.T) {
	for s, f := range map[string]float64{
		"0p0": 0, "1p0": 1, "1p1": 2, "5p-1": 2.5, "3602879701896397p-55": 0.1, "1p1000": math.Ldexp(1, 1000),
		"1p-1074": math.SmallestNonzeroFloat64, "3p-1074": math.Ldexp(3, -1074), "4503599627370495p-1074": math.Ldexp(4503599627370495, -1074), "9007199254740991p-1074": math.Ldexp(9007199254740991, -1074), "1p-1073": 2 * math.SmallestNonzeroFloat64,
		"1p1023": math.Ldexp(1, 1023), "3p1022": math.Ldexp(3, 1022), "9007199254740991p971": math.MaxFloat64, "9007199254740991p0": 9007199254740991,
	} {
		wantTokens(t, s, scaled(f, 0, len(s)))
		wantTokens(t, "("+s+")", mark("(", 0), scaled(f, 1, len(s)), mark(")", 1+len(s)))
	}
	for _, s := range []string{
		"2p0", "4p1", "10p-1", "9007199254740992p0", "9007199254740993p0", "9223372036854775807p0", "9223372036854775809p0", "36893488147419103233p0",
		"1p-1075", "1p1024", "1p-9999", "1p9223372036854775807", "1p-9223372036854775807", "1p18446744073709551616", "1p-18446744073709551616", "1p" + strings.Repeat("9", 4000),
		"3p1023", "9007199254740991p972", "9007199254740991p1023",
		"1p-0", "0p-0", "0p1", "0p-1", "0p1024", "00p0", "01p0", "1p00", "1p01", "1p-01", "1p-00", "0p00",
		"1p", "0p", "1p-", "1p--1", "1p+1", "1p 0", "1p-x", "1px", "1p->", "1p.0", "1P0",
		"1p0a", "1p0_", "1p0p0", "1p-1Z", "0p0x",
	} {
		wantFault(t, s, 0, api.ErrLexNumber)
	}
	wantTokens(t, "1p1-1", scaled(2, 0, 3), mark("-", 3), whole(1, 4, 1))
	wantTokens(t, "1 p0", whole(1, 0, 1), name("p0", 2))
	wantTokens(t, "-0p0", mark("-", 0), scaled(0, 1, 3))
}

// P1.1: texts: what each part stands for, and the edges of MaxText.
func TestScanTexts(t *testing.T) {
	wantTokens(t, `""`, said("", 0, 2))
	wantTokens(t, `"" ""`, said("", 0, 2), said("", 3, 2))
	wantTokens(t, `"\"\\\x00\x1f\x7f\x80\xff"`, said("\"\\\x00\x1f\x7f\x80\xff", 0, 26))
	wantTokens(t, `"\\x41"`, said(`\x41`, 0, 7))
	wantTokens(t, `"a # b"`, said("a # b", 0, 7))
	wantTokens(t, `"\\""\""`, said("\\", 0, 4), said("\"", 4, 4))
	wantTokens(t, `"`+strings.Repeat("a", 256)+`"`, said(strings.Repeat("a", 256), 0, 258))
	wantTokens(t, `"`+strings.Repeat(`\x0a`, 256)+`"`, said(strings.Repeat("\n", 256), 0, 1026))
	for _, s := range []string{
		`"`, `"a`, `"\`, `"\"`, `"\\\"`, `"\x`, `"\x0`, `"\x0a`, `"\x"`, `"\x0"`, `"\x0A"`, `"\xFF"`, `"\xg0"`, `"\x0g"`, `"\X0a"`, `"\a"`, `"\'"`, `"\ "`, `"\u0000"`, `"\0"`,
		"\"\n\"", "\"\t\"", "\"\x00\"", "\"\x7f\"", "\"\x80\"", "\"\xc3\xa4\"", "\"\\\n\"", "\"a\n", "\"a # b\n",
		`"` + strings.Repeat("a", 257) + `"`, `"` + strings.Repeat(`\x00`, 257) + `"`, `"` + strings.Repeat("a", 32000) + `"`, `"` + strings.Repeat("a", 256),
	} {
		wantFault(t, s, 0, api.ErrLexText)
		wantFault(t, "a,"+s, 2, api.ErrLexText)
	}
	for c := range 256 {
		s := strconv.FormatInt(int64(c)+256, 16)[1:]
		if 32 <= c && c <= 126 {
			wantFault(t, `"\x`+s+`"`, 0, api.ErrLexText)
		} else {
			wantTokens(t, `"\x`+s+`"`, said(string([]byte{byte(c)}), 0, 6))
		}
	}
}

// P1.1: the longest mark that begins at a place.
func TestScanMarks(t *testing.T) {
	for _, s := range []string{"==", "!=", "<=", ">=", "&&", "||", "->"} {
		wantTokens(t, s, mark(s, 0))
		wantTokens(t, s+s, mark(s, 0), mark(s, 2))
	}
	wantTokens(t, "= = & &", mark("=", 0), mark("=", 2), mark("&", 4), mark("&", 6))
	wantTokens(t, "===", mark("==", 0), mark("=", 2))
	wantTokens(t, "&&&", mark("&&", 0), mark("&", 2))
	wantTokens(t, "-->", mark("-", 0), mark("->", 1))
	wantTokens(t, "<->>=", mark("<", 0), mark("->", 1), mark(">=", 3))
	wantTokens(t, "=>=<!", mark("=", 0), mark(">=", 1), mark("<", 3), mark("!", 4))
	wantTokens(t, ":=..", mark(":", 0), mark("=", 1), mark(".", 2), mark(".", 3))
	wantTokens(t, "<<>>//**", mark("<", 0), mark("<", 1), mark(">", 2), mark(">", 3), mark("/", 4), mark("/", 5), mark("*", 6), mark("*", 7))
	wantFault(t, "|", 0, api.ErrLexByte)
	wantFault(t, "|||", 2, api.ErrLexByte)
	wantFault(t, "| |", 0, api.ErrLexByte)
	wantFault(t, "|=", 0, api.ErrLexByte)
}

// P1.1: of several places that are wrong the first one is told; too long a source ahead of all.
func TestScanFirst(t *testing.T) {
	wantFault(t, `a 07 $ "`, 2, api.ErrLexNumber)
	wantFault(t, `a $ 07 "`, 2, api.ErrLexByte)
	wantFault(t, `a "\n $ 07`, 2, api.ErrLexText)
	wantFault(t, strings.Repeat("n", 33)+"$", 0, api.ErrLexName)
	wantFault(t, "7"+strings.Repeat("n", 33), 0, api.ErrLexNumber)
	blanks := strings.Repeat(" ", 32767)
	wantTokens(t, blanks+"a", name("a", 32767))
	wantTokens(t, strings.Repeat(" ", 32768))
	wantFault(t, blanks+"$", 32767, api.ErrLexByte)
	wantFault(t, blanks+"\"", 32767, api.ErrLexText)
	wantFault(t, "$"+blanks+" ", 0, api.ErrLong)
	wantFault(t, blanks+"a ", 0, api.ErrLong)
	wantFault(t, "a "+blanks, 0, api.ErrLong)
	l, at, e := lex.Scan(bytes.Repeat([]byte("+"), 32768))
	if len(l) != 32768 || at != 0 || e != api.OK || l[32767] != mark("+", 32767) {
		t.Errorf("Scan of 32768 marks: %d tokens, %d, %v", len(l), at, e)
	}
	if l, at, e := lex.Scan(nil); len(l) != 0 || at != 0 || e != api.OK {
		t.Errorf("Scan of nil: %v, %d, %v", l, at, e)
	}
}

// P1.1: held against the patterns of the reference.
func TestScanReference(t *testing.T) {
	allTexts(func(text []byte) {
		l, at, e := lex.Scan(text)
		wl, wat, we := reference(text)
		if !same(l, wl) || at != wat || e != we {
			t.Fatalf("Scan of %q: %v, %d, %v; want %v, %d, %v", text, l, at, e, wl, wat, we)
		}
	})
}

// collect goes over a sequence to its end.
func collect(text []byte) (tokens []lex.Token, faults []api.Errno) {
	for x, e := range lex.Each(text) {
		tokens, faults = append(tokens, x), append(faults, e)
	}
	return tokens, faults
}

// P1.2: Each tells what Scan tells, and ahead of a fault what Scan of the bytes ahead of it tells.
func TestEachAgrees(t *testing.T) {
	allTexts(func(text []byte) {
		l, at, e := lex.Scan(text)
		if e != api.OK {
			l, _, _ = lex.Scan(text[:at])
			l = append(l, lex.Token{At: at})
		}
		got, faults := collect(text)
		if !same(got, l) {
			t.Fatalf("Each of %q: %v; want %v", text, got, l)
		}
		for i, f := range faults {
			if i < len(faults)-1 && f != api.OK || i == len(faults)-1 && f != e {
				t.Fatalf("Each of %q: errors %v; want %v as the last one", text, faults, e)
			}
		}
	})
}

// P1.2: the errors, and a text without tokens.
func TestEachFaults(t *testing.T) {
	for _, c := range []struct {
		text string
		l    []lex.Token
		e    api.Errno
	}{
		{"a 7b c", []lex.Token{name("a", 0), {At: 2}}, api.ErrLexNumber},
		{"$", []lex.Token{{}}, api.ErrLexByte},
		{`a+"x`, []lex.Token{name("a", 0), mark("+", 1), {At: 2}}, api.ErrLexText},
		{"1 " + strings.Repeat("n", 33), []lex.Token{whole(1, 0, 1), {At: 2}}, api.ErrLexName},
		{"a b" + strings.Repeat(" ", 32766), []lex.Token{{}}, api.ErrLong},
	} {
		l, faults := collect([]byte(c.text))
		if !same(l, c.l) || faults[len(faults)-1] != c.e {
			t.Errorf("Each of %.40q: %v, %v; want %v, %v", c.text, l, faults, c.l, c.e)
		}
	}
	for _, s := range []string{"", " # x"} {
		if l, _ := collect([]byte(s)); len(l) != 0 {
			t.Errorf("Each of %q: %v", s, l)
		}
	}
	if l, _ := collect(nil); len(l) != 0 {
		t.Errorf("Each of nil: %v", l)
	}
}

// P1.2: left early at every place, gone over again, and twice at a time.
func TestEachAgain(t *testing.T) {
	for _, text := range []string{"a 1 \"x\" -> 5p-1", "a 1 $ b", "$", strings.Repeat(" ", 32769)} {
		seq := lex.Each([]byte(text))
		all, _ := collect([]byte(text))
		for stop := range all {
			n := 0
			for x := range seq {
				if x != all[n] {
					t.Errorf("%.20q, the token %d: %v; want %v", text, n, x, all[n])
				}
				if n++; n > stop {
					break
				}
			}
			if n != stop+1 {
				t.Errorf("%.20q: %d tokens ahead of the stop; want %d", text, n, stop+1)
			}
		}
		pairs := 0
		for range seq {
			for range seq {
				pairs++
			}
		}
		if pairs != len(all)*len(all) {
			t.Errorf("%.20q: %d pairs; want %d squared", text, pairs, len(all))
		}
	}
}

// P1.3: the chapter's example, the edges, and each place of some texts, counted byte by byte.
func TestLine(t *testing.T) {
	for _, c := range []struct {
		text             string
		at, line, column int
	}{
		{"ab\nc", 0, 1, 1}, {"ab\nc", 2, 1, 3}, {"ab\nc", 3, 2, 1}, {"ab\nc", 4, 2, 2}, {"ab\nc", 5, 0, 0},
		{"ab\nc", -1, 0, 0}, {"ab\nc", math.MaxInt, 0, 0}, {"ab\nc", math.MinInt, 0, 0},
		{"", 0, 1, 1}, {"", 1, 0, 0}, {"", -1, 0, 0}, {"\n", 0, 1, 1}, {"\n", 1, 2, 1}, {"a\r\n\r", 4, 2, 2}, {"\xc3\xa4\t", 3, 1, 4},
	} {
		if l, k := lex.Line([]byte(c.text), c.at); l != c.line || k != c.column {
			t.Errorf("Line of %q at %d: %d, %d; want %d, %d", c.text, c.at, l, k, c.line, c.column)
		}
	}
	if l, k := lex.Line(nil, 0); l != 1 || k != 1 {
		t.Errorf("Line of nil at 0: %d, %d", l, k)
	}
	for _, text := range []string{"a\n\nbc\n", "\n\n", "abc", "$ \"\n07\n"} {
		line, column := 1, 1
		for at := 0; at <= len(text); at++ {
			if l, k := lex.Line([]byte(text), at); l != line || k != column {
				t.Errorf("Line of %q at %d: %d, %d; want %d, %d", text, at, l, k, line, column)
			}
			if column++; at < len(text) && text[at] == '\n' {
				line, column = line+1, 1
			}
		}
	}
	long := bytes.Repeat([]byte("abc\n"), 100000)
	if l, k := lex.Line(long, 400000); l != 100001 || k != 1 {
		t.Errorf("Line at the end of a long text: %d, %d", l, k)
	}
	if l, k := lex.Line(long, 399999); l != 100000 || k != 4 {
		t.Errorf("Line in a long text: %d, %d", l, k)
	}
	spare := append(make([]byte, 0, 8), "ab"...)
	if l, k := lex.Line(spare, 3); l != 0 || k != 0 {
		t.Errorf("Line in the spare room: %d, %d", l, k)
	}
}

// P1.4: the chapter's example, each byte alone, the edges of MaxText.
func TestQuote(t *testing.T) {
	for s, want := range map[string]string{"": `""`, "a\"\n\x00": `"a\"\x0a\x00"`, `\x41`: `"\\x41"`, "# é": `"# \xc3\xa9"`} {
		if q, e := lex.Quote(s); q != want || e != api.OK {
			t.Errorf("Quote of %q: %q, %v; want %q", s, q, e, want)
		}
	}
	for c := range 256 {
		s := string([]byte{byte(c)})
		want := `"\x` + strconv.FormatInt(int64(c)+256, 16)[1:] + `"`
		if c == '"' || c == '\\' {
			want = `"\` + s + `"`
		} else if 32 <= c && c <= 126 {
			want = `"` + s + `"`
		}
		if q, e := lex.Quote(s); q != want || e != api.OK {
			t.Errorf("Quote of the byte %d: %q, %v; want %q", c, q, e, want)
		}
	}
	for _, part := range []string{"a", "\x00", "\"", "\xff"} {
		if q, e := lex.Quote(strings.Repeat(part, 256)); e != api.OK || len(q) < 258 {
			t.Errorf("Quote of 256 times %q: %q, %v", part, q, e)
		}
		if q, e := lex.Quote(strings.Repeat(part, 257)); e != api.ErrLong || q != "" {
			t.Errorf("Quote of 257 times %q: %q, %v", part, q, e)
		}
	}
}
