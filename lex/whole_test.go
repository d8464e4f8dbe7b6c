package lex_test

import (
	"bytes"
	"math/rand"
	"slices"
	"strings"
	"testing"

	"chordmail/api"
	"chordmail/lex"
)

// isGap tells whether bytes are blanks and comments alone; a comment that isn't the last thing must have its line's end.
func isGap(gap []byte, last bool) bool {
	for len(gap) > 0 {
		if gap[0] == '#' {
			n := bytes.IndexByte(gap, '\n')
			if n < 0 {
				return last
			}
			gap = gap[n:]
		}
		if !strings.Contains(" \t\n\r", string(gap[:1])) {
			return false
		}
		gap = gap[1:]
	}
	return true
}

// P1.5: tokens stand one behind the other, with blanks and comments between, and each is itself when scanned alone.
func TestParts(t *testing.T) {
	allTexts(func(text []byte) {
		l, fault, e := lex.Scan(text)
		ahead := text
		if e != api.OK {
			ahead = text[:fault]
			var at int
			if l, at, e = lex.Scan(ahead); e != api.OK || at != 0 {
				t.Fatalf("%q: the bytes ahead of the fault at %d: %d, %v", text, fault, at, e)
			}
		}
		end := 0
		for _, x := range l {
			if x.At < end || x.Size < 1 || !isGap(text[end:x.At], false) {
				t.Fatalf("%q: %v behind %d", text, x, end)
			}
			end = x.At + x.Size
			alone, at, e := lex.Scan(text[x.At:end])
			if e != api.OK || at != 0 || !same(alone, placeless([]lex.Token{x})) {
				t.Fatalf("%q: %v alone: %v, %d, %v", text, x, alone, at, e)
			}
		}
		if !isGap(ahead[end:], len(ahead) == len(text)) {
			t.Fatalf("%q: behind the last token: %q", text, ahead[end:])
		}
	})
}

// P1.6: the tokens' bytes with one blank between each two are the same tokens.
func TestJoined(t *testing.T) {
	allTexts(func(text []byte) {
		l, _, _ := lex.Scan(text)
		var pieces [][]byte
		for _, x := range l {
			pieces = append(pieces, text[x.At:x.At+x.Size])
		}
		again, at, e := lex.Scan(bytes.Join(pieces, []byte(" ")))
		if e != api.OK || at != 0 || !same(placeless(again), placeless(l)) {
			t.Fatalf("%q joined: %v, %d, %v; want %v", text, again, at, e, l)
		}
	})
}

// P1.7: from Quote to Scan and back.
func TestThereAndBack(t *testing.T) {
	lot := rand.New(rand.NewSource(2))
	for range 5000 {
		b := make([]byte, lot.Intn(257))
		lot.Read(b)
		q, e := lex.Quote(string(b))
		l, at, f := lex.Scan([]byte(q))
		if e != api.OK || f != api.OK || at != 0 || !same(l, []lex.Token{said(string(b), 0, len(q))}) {
			t.Fatalf("Quote of %q: %q, %v; scanned: %v, %d, %v", b, q, e, l, at, f)
		}
	}
	allTexts(func(text []byte) {
		l, _, _ := lex.Scan(text)
		for _, x := range l {
			if x.Kind != lex.Text {
				continue
			}
			if q, e := lex.Quote(x.Text); e != api.OK || q != string(text[x.At:x.At+x.Size]) {
				t.Fatalf("%q: the text %v is quoted as %q, %v", text, x, q, e)
			}
		}
	})
}

const full = `name 20 5p-1 "te\x0axt" -> == _`

// spareText is a text with room behind it that holds something.
func spareText(text string) (part, all []byte) {
	all = append([]byte(text), "$$ behind"...)
	return all[:len(text)], all
}

// P1.8: what is handed in is not changed, the room behind it neither.
func TestNotChanged(t *testing.T) {
	for _, text := range []string{full, "a 07", `a "x`, "$", strings.Repeat(" ", 32769)} {
		part, all := spareText(text)
		before := bytes.Clone(all)
		lex.Scan(part)
		collect(part)
		lex.Line(part, len(part))
		if !bytes.Equal(all, before) {
			t.Errorf("%.40q became %.40q", before, all)
		}
	}
}

// P1.8: what is handed in is not kept.
func TestNotKept(t *testing.T) {
	text, all := spareText(full)
	want, _, _ := lex.Scan([]byte(full))
	l, _, _ := lex.Scan(text)
	seq := lex.Each(text)
	var half []lex.Token
	for x := range seq {
		half = append(half, x)
	}
	for i := range all {
		all[i] = '#'
	}
	if !same(l, want) || !same(half, want) {
		t.Errorf("tokens changed with the text: %v, %v; want %v", l, half, want)
	}
	var later []lex.Token
	for x := range seq {
		later = append(later, x)
	}
	if !same(later, want) {
		t.Errorf("the sequence changed with the text: %v; want %v", later, want)
	}
}

// P1.8: what is answered is new memory, the spare room too.
func TestNewMemory(t *testing.T) {
	a, _, _ := lex.Scan([]byte(full))
	b, _, _ := lex.Scan([]byte(full))
	want := slices.Clone(b)
	a = a[:cap(a)]
	for i := range a {
		a[i] = lex.Token{Kind: 9}
	}
	if c, _, _ := lex.Scan([]byte(full)); !same(b, want) || !same(c, want) {
		t.Errorf("answers share memory: %v, %v; want %v", b, c, want)
	}
}
