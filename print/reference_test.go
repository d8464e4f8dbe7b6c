package print_test

import (
	"regexp"
	"strings"

	"chordmail/api"
	"chordmail/expr"
)

// The reference lays a text together from its lines, and reads nothing: whether a text is read as what it was made of is told by what the grammar has at each place.

// listText is a list in brackets.
func listText[T any](l []T, text func(T) string) string {
	return "(" + strings.Join(cloned(l, text), ", ") + ")"
}

func exprText(e api.Expr) string {
	text, _ := expr.Print(e)
	return text
}

func typeText(kind int) string {
	return map[int]string{1: "int", 2: "real", 3: "comp", 4: "text", 5: "bool"}[kind]
}

func actText(a api.Act) string {
	return map[int]string{
		1: "send " + exprText(a.To) + " " + a.Name + listText(a.Args, exprText) + ";",
		2: "spawn " + a.Name + " as " + a.Var + ";",
		3: "reply" + listText(a.Args, exprText) + ";",
		4: "become " + a.Name + ";",
	}[a.Kind]
}

func partText(p api.Part) string {
	return p.Tag + listText(p.Vars, func(s string) string { return s })
}

func chordText(c api.Chord) string {
	when := ""
	if len(c.Guard.Nodes) > 0 {
		when = " when " + exprText(c.Guard)
	}
	lines := []string{"chord " + c.Name + ": " + strings.Join(cloned(c.Parts, partText), " & ") + when + " {"}
	for _, a := range c.Body {
		lines = append(lines, "\t\t"+actText(a))
	}
	return strings.Join(append(lines, "\t}"), "\n")
}

func programText(p api.Program) string {
	lines := []string{}
	for _, a := range p.Tags {
		lines = append(lines, "tag "+a.Name+listText(a.Types, typeText)+";")
	}
	for _, k := range p.Kinds {
		lines = append(lines, "kind "+k.Name+" {")
		for _, c := range k.Chords {
			lines = append(lines, "\t"+chordText(c))
		}
		lines = append(lines, "}")
	}
	return strings.Join(append(lines, ""), "\n")
}

// The expressions whose errors count, in their order.

func actExprs(a api.Act) []api.Expr {
	switch a.Kind {
	case 1:
		return append([]api.Expr{a.To}, a.Args...)
	case 3:
		return a.Args
	}
	return nil
}

func chordExprs(c api.Chord) []api.Expr {
	var l []api.Expr
	if len(c.Guard.Nodes) > 0 {
		l = append(l, c.Guard)
	}
	for _, a := range c.Body {
		l = append(l, actExprs(a)...)
	}
	return l
}

func programExprs(p api.Program) []api.Expr {
	var l []api.Expr
	for _, k := range p.Kinds {
		for _, c := range k.Chords {
			l = append(l, chordExprs(c)...)
		}
	}
	return l
}

var (
	namePattern    = regexp.MustCompile(`^[A-Za-z][0-9A-Za-z_]{0,31}$`)
	keywordPattern = regexp.MustCompile(`^(tag|kind|chord|when|send|spawn|as|reply|become)$`)
)

func isWord(s string) bool { return namePattern.MatchString(s) && !keywordPattern.MatchString(s) }

// every tells whether something holds of each thing of a list.
func every[T any](l []T, holds func(T) bool) bool {
	for _, x := range l {
		if !holds(x) {
			return false
		}
	}
	return true
}

// actIsRead tells whether an act has what the grammar has of its kind, and nothing else.
func actIsRead(a api.Act) bool {
	noTo, noName, noVar, noArgs := len(a.To.Nodes) == 0, a.Name == "", a.Var == "", len(a.Args) == 0
	switch a.Kind {
	case 1:
		return isWord(a.Name) && noVar
	case 2:
		return noTo && isWord(a.Name) && isWord(a.Var) && noArgs
	case 3:
		return noTo && noName && noVar
	case 4:
		return noTo && isWord(a.Name) && noVar && noArgs
	}
	return false
}

func partIsRead(p api.Part) bool {
	return isWord(p.Tag) && every(p.Vars, func(s string) bool { return s == "_" || isWord(s) })
}

func chordIsRead(c api.Chord) bool {
	return isWord(c.Name) && len(c.Parts) > 0 && every(c.Parts, partIsRead) && every(c.Body, actIsRead)
}

func programIsRead(p api.Program) bool {
	rightTag := func(a api.Tag) bool {
		return isWord(a.Name) && every(a.Types, func(kind int) bool { return 1 <= kind && kind <= 4 })
	}
	rightKind := func(k api.Kind) bool { return isWord(k.Name) && every(k.Chords, chordIsRead) }
	return every(p.Tags, rightTag) && every(p.Kinds, rightKind)
}

// refAnswer is what is told of a text, of the expressions in it, and of whether it is read as what it was made of.
func refAnswer(text string, l []api.Expr, isRead bool) answer {
	for _, e := range l {
		if fault := expr.May(e); fault != api.OK {
			return answer{"", fault}
		}
	}
	if len(text) > 32768 {
		return answer{"", api.ErrLong}
	}
	if !isRead {
		return answer{"", api.ErrDecl}
	}
	return answer{text, api.OK}
}

func refPrint(p api.Program) answer {
	return refAnswer(programText(p), programExprs(p), programIsRead(p))
}

func refChord(c api.Chord) answer { return refAnswer(chordText(c), chordExprs(c), chordIsRead(c)) }

// refAct says nothing of its own of a text that is just too long for a chord around it: see TestLongAct.
func refAct(a api.Act) answer { return refAnswer(actText(a), actExprs(a), actIsRead(a)) }
