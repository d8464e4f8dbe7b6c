package value

import (
	"cmp"
	"math"

	"chordmail/api"
)

// Same tells whether a and b are the same value (P2.2).
func Same(a, b api.Value) bool { return Compare(a, b) == 0 }

// Compare tells -1, 0 or 1, as a stands ahead of b, with it, or behind it (P2.2).
func Compare(a, b api.Value) int {
	if order := cmp.Compare(rank(a), rank(b)); order != 0 {
		return order
	}
	switch rank(a) {
	case api.Int, api.Bool:
		return cmp.Compare(a.Int, b.Int)
	case api.Real:
		return compareReals(a.Real, b.Real)
	case api.Comp:
		return compareComps(a.Comp, b.Comp)
	case api.Text:
		return cmp.Compare(a.Text, b.Text)
	}
	return 0
}

// rank is the kind of a value that may be, and 0, ahead of all kinds, of one that may not.
func rank(v api.Value) int {
	if !May(v) {
		return 0
	}
	return v.Kind
}

// compareReals is unlike float64's own order: what is no number has a place in it, and so have both noughts.
func compareReals(a, b float64) int {
	if a == 0 && b == 0 {
		return noughtRank(a) - noughtRank(b)
	}
	// cmp has what is no number ahead of all others, all such alike.
	return cmp.Compare(a, b)
}

// noughtRank is 0 of -0, 1 of 0.
func noughtRank(f float64) int {
	if math.Signbit(f) {
		return 0
	}
	return 1
}

func compareComps(a, b complex128) int {
	if order := compareReals(real(a), real(b)); order != 0 {
		return order
	}
	return compareReals(imag(a), imag(b))
}
