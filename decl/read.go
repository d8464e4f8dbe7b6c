package decl

import (
	"chordmail/api"
	"chordmail/expr"
	"chordmail/lex"
	"chordmail/value"
)

// reader goes over the tokens of a text; at is the number of the next one, end the text's length.
type reader struct {
	tokens []lex.Token
	end    int
	at     int
}

// next is the next token; behind the last one a token of no kind, at the text's end.
func (r *reader) next() lex.Token {
	if r.at == len(r.tokens) {
		return lex.Token{At: r.end}
	}
	return r.tokens[r.at]
}

// giveUp ends the reading at the next token.
func (r *reader) giveUp(fault api.Errno) {
	panic(refusal{r.next().At, fault})
}

// took goes over a keyword or a mark, if it stands next, and tells whether it does. (A text token that says the same is neither.)
func (r *reader) took(text string) bool {
	t := r.next()
	if t.Text != text || t.Kind != lex.Name && t.Kind != lex.Mark {
		return false
	}
	r.at++
	return true
}

// want goes over a keyword or a mark that has to stand next.
func (r *reader) want(text string) {
	if !r.took(text) {
		r.giveUp(api.ErrDecl)
	}
}

func (r *reader) word() string {
	t := r.next()
	if t.Kind != lex.Name || Keyword(t.Text) {
		r.giveUp(api.ErrDecl)
	}
	r.at++
	return t.Text
}

// variable reads a word, or the blank in its place.
func (r *reader) variable() string {
	if r.took("_") {
		return "_"
	}
	return r.word()
}

// field reads a field's type.
func (r *reader) field() int {
	t := r.next()
	kind, known := value.Type(t.Text)
	if t.Kind != lex.Name || !known || kind == api.Bool {
		r.giveUp(api.ErrDecl)
	}
	r.at++
	return kind
}

// expression reads an expression as far as it goes.
func (r *reader) expression() api.Expr {
	e, at, fault := expr.Read(r.tokens, r.at)
	r.at = at // behind the expression, or at the token of which its error is told
	if fault != api.OK {
		r.giveUp(fault)
	}
	return e
}

// listed reads what stands in brackets, with commas between.
func listed[T any](r *reader, one func() T) []T {
	r.want("(")
	if r.took(")") {
		return nil
	}
	l := []T{one()}
	for r.took(",") {
		l = append(l, one())
	}
	r.want(")")
	return l
}
