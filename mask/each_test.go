package mask_test

import (
	"iter"
	"slices"
	"sync"
	"testing"

	"chordmail/mask"
)

// P13.4: of nothing, of one number, of all, of some: rising.
func TestNumbers(t *testing.T) {
	wantNumbers(t, "nothing", 0)
	wantNumbers(t, "all", full, count(0, 64)...)
	wantNumbers(t, "some", 1<<63+1<<32+9, 0, 3, 32, 63)
	wantNumbers(t, "the upper half", from(32), count(32, 32)...)
	for i := range 64 {
		wantNumbers(t, "one", one(i), i)
		wantNumbers(t, "all but one", full-one(i), slices.Delete(count(0, 64), i, i+1)...)
	}
}

// P13.4: the same as a sequence, left behind the first, a middle and the last one, and gone over again.
func TestEach(t *testing.T) {
	wantSeq(t, "Each", mask.Mask(0).Each(), nil, true)
	wantSeq(t, "Each", full.Each(), count(0, 64), true)
	wantSeq(t, "Each", mask.Mask(1<<63+1<<32+9).Each(), []int{0, 3, 32, 63}, true)
	for i := range 64 {
		wantSeq(t, "Each", one(i).Each(), []int{i}, true)
		wantSeq(t, "Each", (full - one(i)).Each(), slices.Delete(count(0, 64), i, i+1), true)
	}
	for range mask.Mask(0).Each() {
		t.Error("nothing has a number")
	}
}

// wantLeft goes over one sequence again and again, left by break, by return and by a label, and holds that it always begins anew.
func wantLeft[T comparable](t *testing.T, seq iter.Seq[T], wanted []T, all bool) {
	t.Helper()
	for n := 1; n <= len(wanted); n++ {
		got := 0
		for x := range seq {
			if x != wanted[got] {
				complain(t, "%v at %d; want %v", x, got, wanted[got])
			}
			if got++; got == n {
				break
			}
		}
		if got != n {
			complain(t, "%d told; want %d", got, n)
		}
	}
	first := func() (x T) {
		for x := range seq {
			return x
		}
		return x
	}
	if first() != wanted[0] || first() != wanted[0] {
		complain(t, "the first: %v; want %v", first(), wanted[0])
	}
	seen := 0
outer:
	for range 3 {
		for x := range seq {
			if seen++; x == wanted[len(wanted)-1] || seen > 3*len(wanted) {
				continue outer
			}
		}
	}
	if seen != 3*len(wanted) {
		complain(t, "%d told; want %d", seen, 3*len(wanted))
	}
	wantSeq(t, "the sequence", seq, wanted, all)
}

// P13.4: sequences that are left early, and gone over again.
func TestLeft(t *testing.T) {
	wantLeft(t, mask.Mask(1<<63+1<<32+9).Each(), []int{0, 3, 32, 63}, true)
	wantLeft(t, mask.Mask(1<<63).Each(), []int{63}, true)
	wantLeft(t, full.Each(), count(0, 64), true)
	wantLeft(t, full.Each(), count(0, 7), false)
	wantLeft(t, mask.Mask(9).Subsets(), []mask.Mask{0, 1, 8, 9}, true)
	wantLeft(t, mask.Mask(1<<63+1).Subsets(), []mask.Mask{0, 1, 1 << 63, 1<<63 + 1}, true)
	wantLeft(t, mask.Mask(0).Subsets(), []mask.Mask{0}, true)
	wantLeft(t, full.Subsets(), []mask.Mask{0, 1, 2, 3, 4, 5, 6, 7, 8}, false)
}

// wantWithin holds that a sequence tells the same while it is gone over within itself, and within another one of its kind.
func wantWithin[T comparable](t *testing.T, a, b iter.Seq[T], wanted []T) {
	t.Helper()
	var outer []T
	for x := range a {
		if outer = append(outer, x); len(outer) > len(wanted) {
			break
		}
		wantSeq(t, "within itself", a, wanted, true)
		inner := 0
		for y := range a {
			for z := range b {
				if z == y || t.Failed() {
					break
				}
				inner++
			}
			if t.Failed() {
				return
			}
		}
		if many := len(wanted); inner != many*(many-1)/2 {
			complain(t, "%d within, of %v", inner, wanted)
		}
	}
	if !slices.Equal(outer, wanted) {
		complain(t, "the outer one: %v; want %v", outer, wanted)
	}
}

// P13.4: gone over twice at once, one within the other.
func TestWithin(t *testing.T) {
	for _, m := range []mask.Mask{0, 1, 1 << 63, 9, 1<<63 + 1<<32 + 9, full >> 50, from(50)} {
		wantWithin(t, m.Each(), m.Each(), setOf(m).numbers())
		if numbers := setOf(m).numbers(); len(numbers) < 5 {
			wantWithin(t, m.Subsets(), m.Subsets(), setOf(m).subsets(16))
		}
	}
}

// P13.4: one number, several far apart, with 63 among them: from 0 to the mask, rising.
func TestSubsets(t *testing.T) {
	for _, c := range []struct {
		m      mask.Mask
		wanted []mask.Mask
	}{
		{0, []mask.Mask{0}}, {1, []mask.Mask{0, 1}}, {32, []mask.Mask{0, 32}}, {1 << 63, []mask.Mask{0, 1 << 63}},
		{3, []mask.Mask{0, 1, 2, 3}}, {9, []mask.Mask{0, 1, 8, 9}}, {3 << 62, []mask.Mask{0, 1 << 62, 1 << 63, 3 << 62}},
		{7, []mask.Mask{0, 1, 2, 3, 4, 5, 6, 7}}, {22, []mask.Mask{0, 2, 4, 6, 16, 18, 20, 22}},
		{1<<63 + 1<<32 + 1, []mask.Mask{0, 1, 1 << 32, 1<<32 + 1, 1 << 63, 1<<63 + 1, 1<<63 + 1<<32, 1<<63 + 1<<32 + 1}},
		{3<<62 + 2, []mask.Mask{0, 2, 1 << 62, 1<<62 + 2, 1 << 63, 1<<63 + 2, 3 << 62, 3<<62 + 2}},
	} {
		if got := firsts(c.m.Subsets(), 100); !slices.Equal(got, c.wanted) {
			t.Errorf("Subsets of %x: %x; want %x", c.m, got, c.wanted)
		}
		wantSubsets(t, c.m, 100)
	}
	for i := range 64 {
		wantSubsets(t, one(i), 10)
	}
}

// P13.4: of masks with a great many subsets the first ones, left early.
func TestSubsetsOfMany(t *testing.T) {
	n := mask.Mask(0)
	for s := range full.Subsets() {
		if s != n {
			t.Fatalf("%x; want %x", s, n)
		}
		if n++; n == 100000 {
			break
		}
	}
	n = 0
	for s := range from(1).Subsets() {
		if s != 2*n {
			t.Fatalf("%x; want %x", s, 2*n)
		}
		if n++; n == 100000 {
			break
		}
	}
	for _, m := range []mask.Mask{full, full - 1, full / 2, from(40), full / 3, full / 3 * 2, full / 5} {
		wantSubsets(t, m, 5000)
	}
}

// P13.4: of each small mask its subsets are those of the numbers up to it that have no bit but its own.
func TestSubsetsOfSmall(t *testing.T) {
	for m := range mask.Mask(300) {
		var wanted []mask.Mask
		for s := range m + 1 {
			if setOf(s).in(setOf(m)) {
				wanted = append(wanted, s)
			}
		}
		wantSeq(t, "Subsets", m.Subsets(), wanted, true)
		for i, s := range wanted {
			wanted[i] = s << 55
		}
		wantSeq(t, "Subsets", (m << 55).Subsets(), wanted, true)
	}
}

// P13.4: a sequence is its mask's as it was when it was asked for.
func TestSequenceStays(t *testing.T) {
	m := mask.Mask(9)
	each, subsets := m.Each(), m.Subsets()
	m = m.With(63).Without(0)
	wantSeq(t, "Each", each, []int{0, 3}, true)
	wantSeq(t, "Subsets", subsets, []mask.Mask{0, 1, 8, 9}, true)
	for i := range m.Each() {
		m = m.Without(i).With(i + 1)
	}
	wantMask(t, "changed in the midst", m, 16)
}

// P13.4: sequences that are gone over at one time by several.
func TestBeside(t *testing.T) {
	each, subsets := full.Each(), mask.Mask(1<<63+1<<32+9).Subsets()
	var group sync.WaitGroup
	for range 8 {
		group.Go(func() {
			for range 20 {
				wantSeq(t, "Each", each, count(0, 64), true)
				wantSeq(t, "Subsets", subsets, setOf(1<<63+1<<32+9).subsets(16), true)
			}
		})
	}
	group.Wait()
}
