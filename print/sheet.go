package print

import (
	"chordmail/api"
	"chordmail/expr"
)

// sheet is a text while it is written, and the error of the first expression that has none.
type sheet struct {
	text  []byte
	fault api.Errno
}

// add writes pieces one behind the other. Of a text that is too long no more is kept than what tells that it is.
func (s *sheet) add(pieces ...string) {
	for _, piece := range pieces {
		room := api.MaxSource + 1 - len(s.text)
		s.text = append(s.text, piece[:min(len(piece), room)]...)
	}
}

// expression is an expression's text; things are written in the order in which their errors count, so the first error stays.
func (s *sheet) expression(e api.Expr) string {
	text, fault := expr.Print(e)
	if s.fault == api.OK {
		s.fault = fault
	}
	return text
}
