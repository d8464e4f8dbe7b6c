package plane_test

import (
	"slices"
	"testing"

	"chordmail/plane"
)

// P4.6: Add and Mul of b and a are those of a and b.
func TestEitherOrder(t *testing.T) {
	for _, a := range edges() {
		for _, b := range edges() {
			want(t, plane.Add(b, a), plane.Add(a, b), "Add, the other way round,", b, a)
			want(t, plane.Mul(b, a), plane.Mul(a, b), "Mul, the other way round,", b, a)
		}
	}
}

// P4.6: four turns and two Conj lead back; a turn leaves Size2, which is not below 0.
func TestTurnsLeadBack(t *testing.T) {
	for _, a := range edges() {
		want(t, plane.Conj(plane.Conj(a)), a, "two Conj", a)
		for _, k := range []int{1, -1, 5, 3} {
			turned := a
			for range 4 {
				turned = plane.Turn(turned, k)
				wantReal(t, plane.Size2(turned), plane.Size2(a), "Size2 of a turn", a, k)
			}
			want(t, turned, a, "four turns", a, k)
		}
		if plane.Size2(a) < 0 {
			t.Errorf("Size2 of %v: %v", a, plane.Size2(a))
		}
	}
}

// P4.4: a list that is handed in stays as it was, the room behind it too; what is done with it behind the call changes no later answer.
func TestMemory(t *testing.T) {
	l := []complex128{1 + 2i, complex(minus0, infinite), complex(3, -4), 5}
	whole := append(slices.Clone(l), 6, 7i, 8)
	before := slices.Clone(whole)
	handed := whole[:len(l)]
	sum, poly := plane.Sum(handed...), plane.Poly(handed, 2-1i)
	if !slices.EqualFunc(whole, before, alike) {
		t.Fatalf("%v became %v", before, whole)
	}
	clear(whole)
	want(t, plane.Sum(l...), sum, "Sum, again,", l)
	want(t, plane.Poly(l, 2-1i), poly, "Poly, again,", l)
	want(t, plane.Sum(), 0, "Sum of none, behind others")

	four := [4]complex128(l)
	first := plane.Four(four)
	if kept := [4]complex128(l); !slices.EqualFunc(four[:], kept[:], alike) {
		t.Errorf("Four made %v of what it was handed", four)
	}
	answer := first
	first[0], four[1] = 99, 99
	wantFour(t, [4]complex128(l), answer)
}
