package lex

import (
	"strings"

	"chordmail/api"
)

// next reads the first token at the place i or behind it: one of no kind, if there is none up to the text's end. Beside an error only At is told.
func next(text []byte, i int) (Token, api.Errno) {
	kind, at, end := span(text, i)
	t := Token{Kind: kind, At: at, Size: end - at}
	piece, fault := text[at:end], api.OK
	switch kind {
	case Name:
		t.Text, fault = name(piece)
	case Int:
		t.Int, fault = whole(piece)
	case Real:
		t.Real, fault = scaled(piece)
	case Text:
		t.Text, fault = unquote(piece)
	case Mark:
		t.Text = string(piece)
	default:
		if at < len(text) {
			fault = api.ErrLexByte
		}
	}
	if (kind == Int || kind == Real) && isWord(byteAt(text, end)) {
		fault = api.ErrLexNumber
	}
	if fault != api.OK {
		return Token{At: at}, fault
	}
	return t, api.OK
}

// span tells what kind of token comes first at the place i or behind it, where it begins and where it ends; no kind, where none begins. Whether the token is faulty is not asked here.
func span(text []byte, i int) (kind, at, end int) {
blank:
	if at = i; i == len(text) {
		return 0, at, i
	}
	switch c := text[i]; {
	case isBlank(c):
		i++
		goto blank
	case c == '#':
		goto comment
	case isLetter(c):
		goto name
	case isDigit(c):
		goto number
	case c == '"':
		goto quoted
	}
	if size := markSize(text[i:]); size > 0 {
		return Mark, at, i + size
	}
	return 0, at, at
comment:
	if i++; i < len(text) && text[i] != '\n' {
		goto comment
	}
	goto blank
name:
	if i++; isWord(byteAt(text, i)) {
		goto name
	}
	return Name, at, i
number:
	if i++; isDigit(byteAt(text, i)) {
		goto number
	}
	// With a p behind it it can be a real alone: no int is followed at once by a letter.
	if byteAt(text, i) != 'p' {
		return Int, at, i
	}
	if byteAt(text, i+1) == '-' {
		i++
	}
power:
	if i++; isDigit(byteAt(text, i)) {
		goto power
	}
	return Real, at, i
quoted:
	if i++; i < len(text) && text[i] == '\\' {
		goto escaped
	}
	if i < len(text) && text[i] != '"' {
		goto quoted
	}
	return Text, at, min(i+1, len(text))
escaped:
	i++
	goto quoted
}

// byteAt is the byte at the place i, or 0, which goes on with no token, behind the end.
func byteAt(text []byte, i int) byte {
	if i < len(text) {
		return text[i]
	}
	return 0
}

func isBlank(c byte) bool { return c == ' ' || c == '\t' || c == '\n' || c == '\r' }

func isLetter(c byte) bool { return 'A' <= c && c <= 'Z' || 'a' <= c && c <= 'z' }

func isDigit(c byte) bool { return '0' <= c && c <= '9' }

func isWord(c byte) bool { return isLetter(c) || isDigit(c) || c == '_' }

// markSize tells how many bytes the mark has with which the text, which isn't empty, begins; 0, if none does.
func markSize(text []byte) int {
	switch string(text[:min(2, len(text))]) {
	case "==", "!=", "<=", ">=", "&&", "||", "->":
		return 2
	}
	if strings.IndexByte("(){},;:.&+-*/%<>!=_", text[0]) >= 0 {
		return 1
	}
	return 0
}
