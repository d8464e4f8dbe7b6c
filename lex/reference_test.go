package lex_test

import (
	"bytes"
	"math/big"
	"math/rand"
	"regexp"
	"strconv"
	"strings"

	"chordmail/api"
	"chordmail/lex"
)

// The reference reads the chapter's words as patterns and reckons with big numbers, so that it shares no step with the scanner.
var (
	blanks = regexp.MustCompile(`^(?:[ \t\n\r]|#[^\n]*)*`)
	names  = regexp.MustCompile(`^[A-Za-z][A-Za-z0-9_]*`)
	reals  = regexp.MustCompile(`^([0-9]+)p(-?)([0-9]+)`)
	ints   = regexp.MustCompile(`^[0-9]+`)
	texts  = regexp.MustCompile(`^"((?:[ !#-\[\]-~]|\\["\\]|\\x(?:[01][0-9a-f]|7f|[89a-f][0-9a-f]))*)"`)
	parts  = regexp.MustCompile(`\\["\\]|\\x[0-9a-f]{2}|.`)
	marks  = regexp.MustCompile(`^(?:==|!=|<=|>=|&&|\|\||->|[(){},;:.&+\-*/%<>!=_])`)
	word   = regexp.MustCompile(`^[A-Za-z0-9_]`)
	nought = regexp.MustCompile(`^0[0-9]`)
)

func reference(text []byte) ([]lex.Token, int, api.Errno) {
	if len(text) > 32768 {
		return nil, 0, api.ErrLong
	}
	var all []lex.Token
	for at := 0; ; {
		at += len(blanks.Find(text[at:]))
		if at == len(text) {
			return all, 0, api.OK
		}
		t, e := referenceToken(text[at:])
		if e != api.OK {
			return nil, at, e
		}
		t.At = at
		all = append(all, t)
		at += t.Size
	}
}

func referenceToken(rest []byte) (lex.Token, api.Errno) {
	if s := names.Find(rest); s != nil {
		if len(s) > 32 {
			return lex.Token{}, api.ErrLexName
		}
		return lex.Token{Kind: 1, Text: string(s), Size: len(s)}, api.OK
	}
	if m := reals.FindSubmatch(rest); m != nil {
		v, ok := referenceReal(string(m[1]), string(m[2]), string(m[3]))
		if !ok || word.Match(rest[len(m[0]):]) {
			return lex.Token{}, api.ErrLexNumber
		}
		return lex.Token{Kind: 3, Real: v, Size: len(m[0])}, api.OK
	}
	if s := ints.Find(rest); s != nil {
		n, _ := new(big.Int).SetString(string(s), 10)
		if !n.IsInt64() || nought.Match(s) || word.Match(rest[len(s):]) {
			return lex.Token{}, api.ErrLexNumber
		}
		return lex.Token{Kind: 2, Int: n.Int64(), Size: len(s)}, api.OK
	}
	if rest[0] == '"' {
		m := texts.FindSubmatch(rest)
		if m == nil {
			return lex.Token{}, api.ErrLexText
		}
		said := parts.ReplaceAllStringFunc(string(m[1]), referencePart)
		if len(said) > 256 {
			return lex.Token{}, api.ErrLexText
		}
		return lex.Token{Kind: 4, Text: said, Size: len(m[0])}, api.OK
	}
	if s := marks.Find(rest); s != nil {
		return lex.Token{Kind: 5, Text: string(s), Size: len(s)}, api.OK
	}
	return lex.Token{}, api.ErrLexByte
}

func referencePart(p string) string {
	if len(p) == 4 {
		n, _ := strconv.ParseUint(p[2:], 16, 8)
		return string([]byte{byte(n)})
	}
	return p[len(p)-1:]
}

// referenceReal puts the number together bit by bit, and holds it against the greatest finite real.
func referenceReal(m, sign, e string) (float64, bool) {
	if nought.MatchString(m) || nought.MatchString(e) || len(e) > 4 || sign == "-" && e == "0" {
		return 0, false
	}
	n, _ := new(big.Int).SetString(m, 10)
	power, _ := strconv.Atoi(sign + e)
	if n.Sign() == 0 {
		return 0, power == 0
	}
	if n.Bit(0) == 0 || n.BitLen() > 53 || power < -1074 || power > 1023 {
		return 0, false
	}
	v, exact := new(big.Float).SetMantExp(new(big.Float).SetInt(n), power).Float64()
	return v, exact == big.Exact
}

// shortTexts calls f with every text of at most so many of the pieces.
func shortTexts(pieces []string, most int, f func(text []byte)) {
	var grow func(text []byte, left int)
	grow = func(text []byte, left int) {
		f(bytes.Clone(text))
		if left == 0 {
			return
		}
		for _, p := range pieces {
			grow(append(bytes.Clone(text), p...), left-1)
		}
	}
	grow(nil, most)
}

// lotTexts calls f with many longer texts, the same ones in every run.
func lotTexts(many int, f func(text []byte)) {
	lot := rand.New(rand.NewSource(1))
	pieces := []string{"a", "Zq_9", "p", "p0", "x", "0", "1", "7p-3", "0p0", "3p", "-", "->", "=", "==", "!", "<", ">=", "&", "&&", "||", "|", ".", "_", "\"", "\"\"", "\"a\"", "\\", "\"\\x0a\"", "\\x41", " ", "\t", "\n", "# c\n", "#", "(", ")", "{", "};", ",", ":", "*/%", "+", "$", "\x00", "\x80", "9007199254740991p971", "9007199254740991p972", "9223372036854775807", "9223372036854775808", strings.Repeat("n", 32), strings.Repeat("n", 33)}
	for range many {
		var text []byte
		for range lot.Intn(12) {
			text = append(text, pieces[lot.Intn(len(pieces))]...)
		}
		f(text)
	}
}

// allTexts calls f with a choice of texts of every sort.
func allTexts(f func(text []byte)) {
	shortTexts([]string{"a", "p", "x", "0", "1", "-", ">", "=", "&", "|", "_", "\"", "\\", " ", "\n", "#", "."}, 4, f)
	shortTexts([]string{"0", "1", "2", "3", "p", "-", "a", " "}, 6, f)
	shortTexts([]string{"\"", "\\", "x", "0", "7", "e", "f", "A"}, 6, f)
	lotTexts(40000, f)
}
