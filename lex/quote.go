package lex

import (
	"strings"

	"chordmail/api"
)

const hexDigits = "0123456789abcdef"

// Quote tells the one text token that stands for s (P1.4).
func Quote(s string) (string, api.Errno) {
	if len(s) > api.MaxText {
		return "", api.ErrLong
	}
	q := []byte{'"'}
	for i := range len(s) {
		switch c := s[i]; {
		case c == '"' || c == '\\':
			q = append(q, '\\', c)
		case isPlain(c):
			q = append(q, c)
		default:
			q = append(q, '\\', 'x', hexDigits[c>>4], hexDigits[c&15])
		}
	}
	return string(append(q, '"')), api.OK
}

// isPlain tells whether a byte is never written by its digits.
func isPlain(c byte) bool { return ' ' <= c && c <= '~' }

// unquote tells what a text token stands for, from its first " to its last byte.
func unquote(piece []byte) (string, api.Errno) {
	var said []byte
	rest := piece[1:]
	for string(rest) != "\"" {
		c, size := part(rest)
		if size == 0 {
			return "", api.ErrLexText
		}
		said = append(said, c)
		rest = rest[size:]
	}
	if len(said) > api.MaxText {
		return "", api.ErrLexText
	}
	return string(said), api.OK
}

// part tells what the part stands for with which the bytes begin, and its size; 0 and 0, if none does.
func part(rest []byte) (byte, int) {
	first, second := byteAt(rest, 0), byteAt(rest, 1)
	switch {
	case first != '\\' && first != '"' && isPlain(first):
		return first, 1
	case first == '\\' && (second == '"' || second == '\\'):
		return second, 2
	case first == '\\' && second == 'x':
		high := strings.IndexByte(hexDigits, byteAt(rest, 2))
		low := strings.IndexByte(hexDigits, byteAt(rest, 3))
		// Both forms of one byte would be two quotes of one text: so a plain one may not be written by its digits.
		if c := byte(high<<4 | low); high >= 0 && low >= 0 && !isPlain(c) {
			return c, 4
		}
	}
	return 0, 0
}
