package mask_test

import (
	"fmt"
	"iter"
	"math"
	"math/rand"
	"os"
	"slices"
	"testing"

	"chordmail/api"
	"chordmail/mask"
)

const full = mask.Mask(math.MaxUint64)

// from are all numbers from n on.
func from(n int) mask.Mask { return full - (1<<n - 1) }

// one has the number i alone.
func one(i int) mask.Mask { return set{}.put(i, true).mask() }

// TestMain asks first whether numbers come to an end: Numbers and Select, which go over all of them, would never answer otherwise.
func TestMain(m *testing.M) {
	for _, a := range edges() {
		if len(firsts(a.Each(), 65)) > 64 {
			fmt.Printf("FAIL: the numbers of %x have no end\n", a)
			os.Exit(1)
		}
	}
	os.Exit(m.Run())
}

// complain tells what is wrong, shortened: some lists are long.
func complain(t *testing.T, format string, of ...any) {
	t.Helper()
	said := fmt.Sprintf(format, of...)
	if len(said) > 600 {
		said = said[:600] + ".."
	}
	t.Error(said)
}

// wrong are numbers that are in no mask: those beside 0 and 63, and such as have the low bits of a number that may be in one.
func wrong() []int {
	l := []int{math.MinInt, math.MinInt + 1, math.MinInt + 63, math.MaxInt - 1, math.MaxInt, -2, -1, 64, 65, 66}
	for _, far := range []int{64, 128, 256, 1 << 16, 1 << 31, 1 << 32, 1 << 48, 1 << 62} {
		l = append(l, -far, far, 3-far, 3+far, 63-far, 63+far)
	}
	slices.Sort(l)
	return slices.DeleteFunc(slices.Compact(l), func(n int) bool { return n >= 0 && n < 64 })
}

// asked are the numbers that each question is asked of: all that may be in a mask, and wrong ones.
func asked() []int { return append(count(0, 64), wrong()...) }

// count are so many numbers, from a first one on.
func count(first, many int) []int {
	var l []int
	for i := range many {
		l = append(l, first+i)
	}
	return l
}

// edges are the masks around which a call may go wrong: nothing, all, one number, all but one, all from a number on or up to it, every second one.
func edges() []mask.Mask {
	l := []mask.Mask{0, full, full / 3, full / 3 * 2, full / 5, 9, 1<<63 + 9, 1<<63 + 1, 3 << 62, 1<<32 + 1<<31, math.MaxUint32, full - math.MaxUint32}
	for i := range 64 {
		l = append(l, one(i), full-one(i), one(i)-1, from(i))
	}
	slices.Sort(l)
	return slices.Compact(l)
}

// drawnMask draws a mask that has few, some or nearly all numbers, here and there or all in one span.
func drawnMask(r *rand.Rand) mask.Mask {
	m := mask.Mask(r.Uint64())
	switch r.Intn(6) {
	case 0:
		return m & mask.Mask(r.Uint64()) & mask.Mask(r.Uint64()) & mask.Mask(r.Uint64())
	case 1:
		return m | mask.Mask(r.Uint64()) | mask.Mask(r.Uint64()) | mask.Mask(r.Uint64())
	case 2:
		return m >> r.Intn(64)
	case 3:
		return m << r.Intn(64)
	case 4:
		return full >> r.Intn(64) << r.Intn(64)
	}
	return m
}

func wantMask(t *testing.T, call string, got, wanted mask.Mask) {
	t.Helper()
	if got != wanted {
		complain(t, "%s: %v; want %v", call, setOf(got).numbers(), setOf(wanted).numbers())
	}
}

// wantPlace holds an answer of a number and of whether there is one.
func wantPlace(t *testing.T, call string, m mask.Mask, of, got int, is bool, wanted int, there bool) {
	t.Helper()
	if got != wanted || is != there {
		complain(t, "%s(%d) of %v: %d, %v; want %d, %v", call, of, setOf(m).numbers(), got, is, wanted, there)
	}
}

// wantOf holds what Of answers: the numbers' set, or an error and nothing.
func wantOf(t *testing.T, wanted api.Errno, numbers ...int) {
	t.Helper()
	s, fault := setFrom(numbers)
	if fault != wanted {
		complain(t, "the reference says of %v: %v; want %v", numbers, fault, wanted)
	}
	if m, fault := mask.Of(numbers...); m != s.mask() || fault != wanted {
		complain(t, "Of(%v): %v, %v; want %v, %v", numbers, setOf(m).numbers(), fault, s.numbers(), wanted)
	}
}

// wantAlone holds each question of one mask against the reference, up to the first mask of which one is wrong.
func wantAlone(t *testing.T, m mask.Mask) {
	t.Helper()
	if t.Failed() {
		return
	}
	s := setOf(m)
	for _, i := range asked() {
		if m.Has(i) != s.has(i) {
			complain(t, "Has(%d) of %v: %v", i, s.numbers(), m.Has(i))
		}
		wantMask(t, "With", m.With(i), s.put(i, true).mask())
		wantMask(t, "Without", m.Without(i), s.put(i, false).mask())
		wantMask(t, "Not", m.Not(i), s.not(i).mask())
		if m.Rank(i) != s.rank(i) {
			complain(t, "Rank(%d) of %v: %d", i, s.numbers(), m.Rank(i))
		}
		n, is := m.Select(i)
		wanted, there := s.pick(i)
		wantPlace(t, "Select", m, i, n, is, wanted, there)
		n, is = m.Next(i)
		wanted, there = s.next(i)
		wantPlace(t, "Next", m, i, n, is, wanted, there)
	}
	numbers := s.numbers()
	if m.Count() != len(numbers) {
		complain(t, "Count of %v: %d", numbers, m.Count())
	}
	if got := m.Numbers(); !slices.Equal(got, numbers) {
		complain(t, "Numbers: %v; want %v", got, numbers)
	}
	wantSeq(t, "Each", m.Each(), numbers, true)
	wantSubsets(t, m, 20)
}

// wantBoth holds each question of two masks against the reference, up to the first two of which one is wrong.
func wantBoth(t *testing.T, a, b mask.Mask) {
	t.Helper()
	if t.Failed() {
		return
	}
	s, o := setOf(a), setOf(b)
	wantMask(t, "And", a.And(b), s.both(o, func(a, b bool) bool { return a && b }).mask())
	wantMask(t, "Or", a.Or(b), s.both(o, func(a, b bool) bool { return a || b }).mask())
	wantMask(t, "Less", a.Less(b), s.both(o, func(a, b bool) bool { return a && !b }).mask())
	if a.In(b) != s.in(o) {
		complain(t, "%v In %v: %v", s.numbers(), o.numbers(), a.In(b))
	}
	if a.Meets(b) != s.meets(o) {
		complain(t, "%v Meets %v: %v", s.numbers(), o.numbers(), a.Meets(b))
	}
}

// wantSubsets holds the first subsets, one more than so many, or all, if there are no more.
func wantSubsets(t *testing.T, m mask.Mask, most int) {
	t.Helper()
	wanted := setOf(m).subsets(most + 1)
	wantSeq(t, "Subsets", m.Subsets(), wanted, len(wanted) <= most)
}

// firsts are the first so many things that a sequence tells.
func firsts[T any](seq iter.Seq[T], most int) []T {
	var l []T
	for x := range seq {
		if l = append(l, x); len(l) >= most {
			break
		}
	}
	return l
}

// wantSeq holds what a sequence tells, left behind its first things, a middle one and the last one; if these are all, as a whole, too.
func wantSeq[T comparable](t *testing.T, name string, seq iter.Seq[T], wanted []T, all bool) {
	t.Helper()
	if seq == nil {
		t.Fatal("no sequence")
	}
	if all {
		if got := firsts(seq, len(wanted)+1); !slices.Equal(got, wanted) {
			complain(t, "%s: %v; want %v", name, got, wanted)
		}
	}
	for _, n := range []int{1, 2, len(wanted) / 2, len(wanted) - 1, len(wanted)} {
		if n < 1 || n > len(wanted) {
			continue
		}
		var got []T
		seq(func(x T) bool {
			if len(got) == n {
				t.Fatalf("%s goes on behind %d", name, n)
			}
			got = append(got, x)
			return len(got) < n
		})
		if !slices.Equal(got, wanted[:n]) {
			complain(t, "%s left behind %d: %v; want %v", name, n, got, wanted[:n])
		}
	}
}
