// Package lex is layer 1: tokens out of a text, each with its place, and the one way in which a text is quoted. See shared/doc/01-lex.md.
package lex

import (
	"bytes"
	"iter"

	"chordmail/api"
)

// The kinds of a Token.
const (
	Name = 1
	Int  = 2
	Real = 3
	Text = 4
	Mark = 5
)

// Token is a piece of a text.
type Token struct {
	Kind int
	Text string
	Int  int64
	Real float64
	At   int
	Size int
}

// Scan tells all tokens of the text, or the first place that is wrong and its error (P1.1).
func Scan(text []byte) ([]Token, int, api.Errno) {
	var all []Token
	for t, e := range tokens(text) {
		if e != api.OK {
			return nil, t.At, e
		}
		all = append(all, t)
	}
	return all, 0, api.OK
}

// Each goes over the tokens of the text; a token that tells only a place comes with the error, as the last one (P1.2).
func Each(text []byte) iter.Seq2[Token, api.Errno] {
	// The sequence outlives this call, and what is handed in is not kept: so it goes over a copy. Of a text that is too long just as much is copied as shows that it is.
	return tokens(bytes.Clone(text[:min(len(text), api.MaxSource+1)]))
}

// tokens is Each over the caller's own bytes.
func tokens(text []byte) iter.Seq2[Token, api.Errno] {
	return func(yield func(Token, api.Errno) bool) {
		if len(text) > api.MaxSource {
			yield(Token{}, api.ErrLong)
			return
		}
		for i := 0; ; {
			t, e := next(text, i)
			if ended := t.Kind == 0 && e == api.OK; ended {
				return
			}
			if !yield(t, e) || e != api.OK {
				return
			}
			i = t.At + t.Size
		}
	}
}

// Line tells the line and the column of a place, both from 1 on; 0 and 0 of a place outside the text (P1.3).
func Line(text []byte, at int) (int, int) {
	if at < 0 || at > len(text) {
		return 0, 0
	}
	ahead := text[:at]
	return 1 + bytes.Count(ahead, []byte{'\n'}), at - bytes.LastIndexByte(ahead, '\n')
}
