package decl_test

import (
	"regexp"
	"slices"
	"strings"

	"chordmail/api"
	"chordmail/expr"
	"chordmail/lex"
)

// The reference has the chapter's grammar as data, letter by letter, and tries all of its ways at once: it knows nothing of what comes next, and tells how far any of the ways goes.
const grammarText = `
program = { tag | kind }
tag     = "tag" word "(" [ type { "," type } ] ")" ";"
kind    = "kind" word "{" { chord } "}"
chord   = "chord" word ":" part { "&" part } [ "when" expr ] "{" { act } "}"
part    = word "(" [ var { "," var } ] ")"
var     = word | "_"
act     = "send" expr word args ";" | "spawn" word "as" word ";" | "reply" args ";" | "become" word ";"
args    = "(" [ expr { "," expr } ] ")"
`

// pattern is a piece of a rule: its way is one of ", for a token; =, for a rule's name; &, for one after the other; |, for any of them; [ and {.
type pattern struct {
	way  byte
	said string
	of   []*pattern
}

var grammar = readGrammar()

func readGrammar() map[string]*pattern {
	rules := map[string]*pattern{}
	for _, line := range strings.Split(strings.TrimSpace(grammarText), "\n") {
		words := strings.Fields(line)
		p, rest := readPattern(words[2:])
		if words[1] != "=" || len(rest) != 0 {
			panic(line)
		}
		rules[words[0]] = p
	}
	return rules
}

// readPattern reads up to the bracket that ends it, or to the rule's end.
func readPattern(words []string) (*pattern, []string) {
	any, row := &pattern{way: '|'}, &pattern{way: '&'}
	for len(words) > 0 && words[0] != "]" && words[0] != "}" {
		w := words[0]
		words = words[1:]
		switch {
		case w == "|":
			any.of = append(any.of, row)
			row = &pattern{way: '&'}
		case w == "[" || w == "{":
			inner, rest := readPattern(words)
			row.of = append(row.of, &pattern{way: w[0], of: []*pattern{inner}})
			words = rest[1:]
		case w[0] == '"':
			row.of = append(row.of, &pattern{way: '"', said: w[1 : len(w)-1]})
		default:
			row.of = append(row.of, &pattern{way: '=', said: w})
		}
	}
	any.of = append(any.of, row)
	return any, words
}

// tree is what a rule was read as: its first token, and the rules within it.
type tree struct {
	rule  string
	first lex.Token
	of    []*tree
	e     api.Expr
}

// found is where one way has come to, and what it has read.
type found struct {
	at    int
	trees []*tree
}

// reading knows how far any way went, and why it did not go on.
type reading struct {
	tokens []lex.Token
	at     int
	fault  api.Errno
}

func (g *reading) stop(at int, fault api.Errno) []found {
	if at > g.at || at == g.at && g.fault == api.ErrDecl {
		g.at, g.fault = at, fault
	}
	return nil
}

// match answers where all ways by a pattern come to.
func (g *reading) match(p *pattern, from found) []found {
	switch p.way {
	case '=':
		return g.matchRule(p.said, from)
	case '"':
		if from.at < len(g.tokens) {
			if x := g.tokens[from.at]; (x.Kind == lex.Name || x.Kind == lex.Mark) && x.Text == p.said {
				return []found{{from.at + 1, from.trees}}
			}
		}
		return g.stop(from.at, api.ErrDecl)
	case '&':
		l := []found{from}
		for _, q := range p.of {
			var on []found
			for _, f := range l {
				on = append(on, g.match(q, f)...)
			}
			l = on
		}
		return l
	case '|':
		var l []found
		for _, q := range p.of {
			l = append(l, g.match(q, from)...)
		}
		return l
	}
	all, last := []found{from}, []found{from}
	for len(last) > 0 {
		var on []found
		for _, f := range last {
			on = append(on, g.match(p.of[0], f)...)
		}
		all, last = append(all, on...), on
		if p.way == '[' {
			break
		}
	}
	return all
}

var (
	keywordPattern = regexp.MustCompile(`^(tag|kind|chord|when|send|spawn|as|reply|become)$`)
	typePattern    = regexp.MustCompile(`^(int|real|comp|text)$`)
)

// matchRule answers where all ways by a rule come to; word, type and expr are no rules of the grammar's own.
func (g *reading) matchRule(rule string, from found) []found {
	made := &tree{rule: rule}
	if from.at < len(g.tokens) {
		made.first = g.tokens[from.at]
	}
	switch rule {
	case "expr":
		e, at, fault := expr.Read(g.tokens, from.at)
		if fault != api.OK {
			return g.stop(at, fault)
		}
		made.e = e
		return []found{{at, append(slices.Clone(from.trees), made)}}
	case "word", "type":
		x := made.first
		if x.Kind != lex.Name || rule == "word" && keywordPattern.MatchString(x.Text) || rule == "type" && !typePattern.MatchString(x.Text) {
			return g.stop(from.at, api.ErrDecl)
		}
		return []found{{from.at + 1, append(slices.Clone(from.trees), made)}}
	}
	var l []found
	for _, f := range g.match(grammar[rule], found{at: from.at}) {
		whole := *made
		whole.of = f.trees
		l = append(l, found{f.at, append(slices.Clone(from.trees), &whole)})
	}
	return l
}

// reference reads a text by a rule; nil, a place and an error of one that is not understood.
func reference(text, rule string) (*tree, int, api.Errno) {
	l, at, fault := lex.Scan([]byte(text))
	if fault != api.OK {
		return nil, at, fault
	}
	g := reading{tokens: l, fault: api.ErrDecl}
	for _, f := range g.matchRule(rule, found{}) {
		if f.at == len(l) {
			return f.trees[0], 0, api.OK
		}
		g.stop(f.at, api.ErrDecl)
	}
	if g.at == len(l) {
		return nil, len(text), g.fault
	}
	return nil, l[g.at].At, g.fault
}

func (x *tree) under(rule string) []*tree {
	var l []*tree
	for _, y := range x.of {
		if y.rule == rule {
			l = append(l, y)
		}
	}
	return l
}

func (x *tree) words() []string {
	var l []string
	for _, y := range x.under("word") {
		l = append(l, y.first.Text)
	}
	return l
}

func (x *tree) program() api.Program {
	var p api.Program
	for _, y := range x.under("tag") {
		a := api.Tag{Name: y.words()[0]}
		for _, z := range y.under("type") {
			a.Types = append(a.Types, map[string]int{"int": 1, "real": 2, "comp": 3, "text": 4}[z.first.Text])
		}
		p.Tags = append(p.Tags, a)
	}
	for _, y := range x.under("kind") {
		k := api.Kind{Name: y.words()[0]}
		for _, z := range y.under("chord") {
			k.Chords = append(k.Chords, z.chord())
		}
		p.Kinds = append(p.Kinds, k)
	}
	return p
}

func (x *tree) chord() api.Chord {
	c := api.Chord{Name: x.words()[0]}
	for _, y := range x.under("part") {
		a := api.Part{Tag: y.words()[0]}
		for _, z := range y.under("var") {
			a.Vars = append(a.Vars, z.first.Text)
		}
		c.Parts = append(c.Parts, a)
	}
	for _, y := range x.under("expr") {
		c.Guard = y.e
	}
	for _, y := range x.under("act") {
		c.Body = append(c.Body, y.act())
	}
	return c
}

func (x *tree) act() api.Act {
	a := api.Act{Kind: map[string]int{"send": 1, "spawn": 2, "reply": 3, "become": 4}[x.first.Text]}
	for i, w := range x.words() {
		if i == 0 {
			a.Name = w
		} else {
			a.Var = w
		}
	}
	for _, y := range x.under("expr") {
		a.To = y.e
	}
	for _, y := range x.under("args") {
		for _, z := range y.under("expr") {
			a.Args = append(a.Args, z.e)
		}
	}
	return a
}
