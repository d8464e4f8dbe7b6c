package mask_test

import (
	"iter"
	"math/rand"
	"runtime"
	"slices"
	"testing"
	"weak"

	"chordmail/api"
	"chordmail/mask"
)

// wantSets holds what P13.5 says of two masks, by the calls alone.
func wantSets(t *testing.T, a, b mask.Mask) {
	t.Helper()
	if t.Failed() {
		return
	}
	for _, m := range []mask.Mask{a, b} {
		if of, fault := mask.Of(m.Numbers()...); of != m || fault != api.OK {
			complain(t, "Of the Numbers of %x: %x, %v", m, of, fault)
		}
		if twice := m.Not(64).Not(64); twice != m {
			complain(t, "Not(64) twice of %x: %x", m, twice)
		}
	}
	less, and, or := a.Less(b), a.And(b), a.Or(b)
	if less.Meets(and) || less.And(and) != 0 {
		complain(t, "Less and And of %x and %x meet", a, b)
	}
	if less.Or(and) != a {
		complain(t, "Less and And of %x and %x are together %x", a, b, less.Or(and))
	}
	if or.Count()+and.Count() != a.Count()+b.Count() {
		complain(t, "Counts of %x and %x", a, b)
	}
	if a.In(b) != (or == b) || b.In(a) != (or == a) {
		complain(t, "In and Or of %x and %x", a, b)
	}
}

// P13.5: of all edges with one another.
func TestSets(t *testing.T) {
	for _, a := range edges() {
		for _, b := range edges() {
			wantSets(t, a, b)
			wantBoth(t, a, b)
		}
	}
}

// wantPlaces holds what P13.6 says of a mask, by the calls alone.
func wantPlaces(t *testing.T, m mask.Mask) {
	t.Helper()
	if t.Failed() {
		return
	}
	for _, i := range m.Numbers() {
		k, is := m.Select(m.Rank(i))
		wantPlace(t, "Select of Rank", m, i, k, is, i, true)
	}
	for i := -1; i <= 63; i++ {
		k, is := m.Next(i)
		wanted, there := m.Select(m.Rank(i + 1))
		wantPlace(t, "Next", m, i, k, is, wanted, there)
	}
}

// P13.6: of all edges; each of their questions is held against the reference, too, of numbers that may be in a mask and of others.
func TestPlaces(t *testing.T) {
	for _, m := range edges() {
		wantPlaces(t, m)
		wantAlone(t, m)
	}
}

// P13.7: as many as 2 to the power Count, each in the mask, no two the same.
func TestSubsetsTogether(t *testing.T) {
	masks := []mask.Mask{0, 1, 1 << 63, 9, 1<<63 + 9, 1<<63 + 1<<32 + 9, full >> 52, from(52), 1<<16 - 1, full / 5 >> 32, from(32) & (full / 5)}
	r := rand.New(rand.NewSource(137))
	for range 40 {
		m := mask.Mask(r.Uint64())
		for setOf(m).rank(64) > 12 {
			m &= mask.Mask(r.Uint64())
		}
		masks = append(masks, m)
	}
	for _, m := range masks {
		all := 1
		for range m.Count() {
			all *= 2
		}
		seen := map[mask.Mask]bool{}
		told := firsts(m.Subsets(), all+1)
		for _, s := range told {
			if !s.In(m) || seen[s] {
				complain(t, "%x of %x", s, m)
			}
			seen[s] = true
		}
		if len(told) != all || told[all-1] != m || !slices.IsSorted(told) {
			complain(t, "%d subsets of %x, or not from 0 to it, rising; want %d", len(told), m, all)
		}
	}
}

// P13.8: a list that is handed to Of is the same behind the call, what is behind its end, too; and is not kept.
func TestHandedIn(t *testing.T) {
	for _, fault := range []api.Errno{api.OK, api.ErrArg} {
		all := []int{63, 3, 3, 0, 7, -5, 99}
		list := all[:4]
		if fault != api.OK {
			list = all[:6]
		}
		before := slices.Clone(all)
		m, got := mask.Of(list...)
		if got != fault || !slices.Equal(all, before) {
			t.Errorf("%v; the list is %v; want %v and %v", got, all, fault, before)
		}
		was, each := m, m.Each()
		for i := range all {
			all[i] = 20 + i
		}
		wantMask(t, "Of, its list written into", m, was)
		wantSeq(t, "Each, the list written into", each, setOf(was).numbers(), true)
	}
}

// P13.8: lists that are answered are new memory, and share none, up to the end of the room behind them.
func TestAnswered(t *testing.T) {
	for _, m := range []mask.Mask{0, 1, 1 << 63, 9, 1<<63 + 9, full / 3, full - 1, full} {
		wanted := setOf(m).numbers()
		for own := range 9 {
			// So many that each place of the room behind one could lie in another.
			var lists [9][]int
			for i := range lists {
				lists[i] = m.Numbers()
			}
			written := lists[own][:cap(lists[own])]
			for i := range written {
				written[i] = -7
			}
			for i, got := range lists {
				if i != own && !slices.Equal(got, wanted) {
					complain(t, "the list %d, the list %d written into: %v; want %v", i, own, got, wanted)
				}
			}
			wantNumbers(t, "a list written into", m, wanted...)
			wantSeq(t, "Each, a list written into", m.Each(), wanted, true)
		}
	}
}

// handed is a weak pointer to a list that was handed to Of, and what is asked of the mask behind that.
func handed(numbers ...int) (weak.Pointer[[64]int], mask.Mask, iter.Seq[int]) {
	var list [64]int
	copy(list[:], numbers)
	m, _ := mask.Of(list[:len(numbers)]...)
	return weak.Make(&list), m, m.Each()
}

// answered is a weak pointer to the first place of a list that was answered.
func answered(m mask.Mask) weak.Pointer[int] { return weak.Make(&m.Numbers()[0]) }

// P13.8: neither a mask nor its sequences keep the list that it was made of, nor does anything else, whether it was refused or not; nor are lists kept that were answered.
func TestNotKept(t *testing.T) {
	for _, numbers := range [][]int{{}, {3}, {3, 0, 63}, {3, 64}, {-1, 3}} {
		list, m, each := handed(numbers...)
		// So many numbers that the list has memory of its own: small things share a piece of it.
		first := answered(m.Or(from(40)))
		runtime.GC()
		if list.Value() != nil || first.Value() != nil {
			t.Errorf("the list %v, or the list of its Numbers, is kept", numbers)
		}
		wantSeq(t, "Each", each, setOf(m).numbers(), true)
	}
}
