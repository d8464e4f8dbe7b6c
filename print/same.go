package print

import (
	"slices"

	"chordmail/api"
)

func sameProgram(a, b api.Program) bool {
	return slices.EqualFunc(a.Tags, b.Tags, sameTag) && slices.EqualFunc(a.Kinds, b.Kinds, sameKind)
}

func sameTag(a, b api.Tag) bool { return a.Name == b.Name && slices.Equal(a.Types, b.Types) }

func sameKind(a, b api.Kind) bool {
	return a.Name == b.Name && slices.EqualFunc(a.Chords, b.Chords, sameChord)
}

func sameChord(a, b api.Chord) bool {
	return a.Name == b.Name && slices.EqualFunc(a.Parts, b.Parts, samePart) && sameExpr(a.Guard, b.Guard) && slices.EqualFunc(a.Body, b.Body, sameAct)
}

func samePart(a, b api.Part) bool { return a.Tag == b.Tag && slices.Equal(a.Vars, b.Vars) }

func sameAct(a, b api.Act) bool {
	return a.Kind == b.Kind && sameExpr(a.To, b.To) && a.Name == b.Name && a.Var == b.Var && slices.EqualFunc(a.Args, b.Args, sameExpr)
}

// sameExpr tells whether the nodes are equal, by which a -0 counts as zero, as it does in layer 5.
func sameExpr(a, b api.Expr) bool { return slices.Equal(a.Nodes, b.Nodes) }
