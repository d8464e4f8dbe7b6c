package mask_test

import (
	"math"
	"slices"
	"testing"

	"chordmail/api"
	"chordmail/mask"
)

// P13.1: no number, one, the same one twice, both ends, all, in rising order and in others.
func TestOf(t *testing.T) {
	for _, c := range []struct {
		numbers []int
		wanted  mask.Mask
	}{
		{nil, 0}, {[]int{}, 0}, {[]int{0}, 1}, {[]int{1}, 2}, {[]int{5}, 32}, {[]int{62}, 1 << 62}, {[]int{63}, 1 << 63},
		{[]int{7, 7}, 128}, {[]int{0, 0}, 1}, {[]int{63, 63, 63}, 1 << 63}, {[]int{0, 63, 0, 63}, 1<<63 + 1},
		{[]int{0, 1, 2, 3}, 15}, {[]int{3, 2, 1, 0}, 15}, {[]int{2, 0, 3, 1}, 15}, {[]int{63, 0}, 1<<63 + 1}, {[]int{0, 63}, 1<<63 + 1}, {[]int{31, 32}, 3 << 31},
	} {
		if m, fault := mask.Of(c.numbers...); m != c.wanted || fault != api.OK {
			t.Errorf("Of(%v): %x, %v; want %x", c.numbers, m, fault, c.wanted)
		}
	}
	for i := range 64 {
		wantOf(t, api.OK, i)
		wantOf(t, api.OK, i, i)
		wantOf(t, api.OK, i, 63-i)
	}
}

// P13.1: all 64 numbers, rising, falling, from the middle on, each more than once, more numbers than there are places.
func TestOfAll(t *testing.T) {
	rising := count(0, 64)
	falling := slices.Clone(rising)
	slices.Reverse(falling)
	for _, numbers := range [][]int{rising, falling, slices.Concat(rising[31:], rising[:31]), slices.Concat(rising, falling, rising)} {
		if m, fault := mask.Of(numbers...); m != full || fault != api.OK {
			t.Errorf("Of(%v): %x, %v; want all", numbers, m, fault)
		}
	}
	for i := range 64 {
		m, fault := mask.Of(slices.Delete(slices.Clone(falling), i, i+1)...)
		wantMask(t, "Of all but one", m, full-one(63-i))
		if fault != api.OK {
			t.Error(i, fault)
		}
	}
}

// P13.1: a number that is in no mask, alone, ahead of right ones, among them, behind them, with others of its like.
func TestOfWrong(t *testing.T) {
	for _, n := range wrong() {
		for _, numbers := range [][]int{{n}, {n, n}, {n, 0}, {n, 3, 63}, {3, n, 63}, {3, 63, n}, {0, n}, {63, n, n, 63}, {n, 5, -n}, append(count(0, 64), n), append([]int{n}, count(0, 64)...)} {
			wantOf(t, api.ErrArg, numbers...)
		}
	}
	for _, n := range []int{64, -1, math.MinInt, math.MaxInt} {
		if m, fault := mask.Of(1, n, 2); m != 0 || fault != api.ErrArg {
			t.Errorf("Of(1, %d, 2): %x, %v; want ErrArg", n, m, fault)
		}
	}
}

// P13.1: numbers that are in the mask and that are not, both ends, of nothing, of all and of some.
func TestHasWithWithout(t *testing.T) {
	some := mask.Mask(1<<63 + 1<<32 + 9)
	for _, c := range []struct {
		m             mask.Mask
		i             int
		has           bool
		with, without mask.Mask
	}{
		{0, 0, false, 1, 0}, {0, 5, false, 32, 0}, {0, 63, false, 1 << 63, 0},
		{full, 0, true, full, full - 1}, {full, 5, true, full, full - 32}, {full, 63, true, full, 1<<63 - 1},
		{some, 0, true, some, 1<<63 + 1<<32 + 8}, {some, 3, true, some, 1<<63 + 1<<32 + 1}, {some, 32, true, some, 1<<63 + 9}, {some, 63, true, some, 1<<32 + 9},
		{some, 1, false, some + 2, some}, {some, 2, false, some + 4, some}, {some, 31, false, some + 1<<31, some}, {some, 33, false, some + 1<<33, some}, {some, 62, false, some + 1<<62, some},
	} {
		if got := c.m.Has(c.i); got != c.has {
			t.Errorf("%x.Has(%d): %v", c.m, c.i, got)
		}
		wantMask(t, "With", c.m.With(c.i), c.with)
		wantMask(t, "Without", c.m.Without(c.i), c.without)
	}
	for _, m := range []mask.Mask{0, full, some} {
		for _, i := range wrong() {
			if m.Has(i) {
				t.Errorf("%x.Has(%d)", m, i)
			}
			wantMask(t, "With a wrong number", m.With(i), m)
			wantMask(t, "Without a wrong number", m.Without(i), m)
		}
	}
}

// P13.2: masks that have nothing, something and all in common, nothing and all on either side, a mask and itself.
func TestPairs(t *testing.T) {
	const odd, even = full / 3 * 2, full / 3
	for _, c := range []struct {
		a, b, and, or, less mask.Mask
		in, meets           bool
	}{
		{0, 0, 0, 0, 0, true, false}, {0, full, 0, full, 0, true, false}, {full, 0, 0, full, full, false, false}, {full, full, full, full, 0, true, true},
		{0, 9, 0, 9, 0, true, false}, {9, 0, 0, 9, 9, false, false}, {9, full, 9, full, 0, true, true}, {full, 9, 9, full, full - 9, false, true},
		{9, 9, 9, 9, 0, true, true}, {9, 6, 0, 15, 9, false, false}, {12, 6, 4, 14, 8, false, true}, {6, 12, 4, 14, 2, false, true},
		{8, 9, 8, 9, 0, true, true}, {9, 8, 8, 9, 1, false, true}, {9, 1, 1, 9, 8, false, true},
		{odd, even, 0, full, odd, false, false}, {even, odd, 0, full, even, false, false},
		{1 << 63, 1 << 62, 0, 3 << 62, 1 << 63, false, false}, {1 << 63, 3 << 62, 1 << 63, 3 << 62, 0, true, true}, {3 << 62, 1 << 63, 1 << 63, 3 << 62, 1 << 62, false, true},
		{1<<63 + 1, 1, 1, 1<<63 + 1, 1 << 63, false, true}, {1, 1 << 63, 0, 1<<63 + 1, 1, false, false}, {1 << 31, 1 << 32, 0, 3 << 31, 1 << 31, false, false},
	} {
		wantMask(t, "And", c.a.And(c.b), c.and)
		wantMask(t, "Or", c.a.Or(c.b), c.or)
		wantMask(t, "Less", c.a.Less(c.b), c.less)
		if c.a.In(c.b) != c.in || c.a.Meets(c.b) != c.meets {
			t.Errorf("%x, %x: In %v, Meets %v", c.a, c.b, c.a.In(c.b), c.a.Meets(c.b))
		}
	}
}

// P13.2: of the numbers below n, up to none and up to all.
func TestNot(t *testing.T) {
	for _, c := range []struct {
		m      mask.Mask
		n      int
		wanted mask.Mask
	}{
		{0, 0, 0}, {0, 1, 1}, {0, 2, 3}, {0, 32, 1<<32 - 1}, {0, 33, 1<<33 - 1}, {0, 63, 1<<63 - 1}, {0, 64, full}, {0, 65, full},
		{full, 0, 0}, {full, 1, 0}, {full, 63, 0}, {full, 64, 0}, {full, 65, 0},
		{1, 1, 0}, {2, 1, 1}, {1, 2, 2}, {1 << 62, 63, 1<<62 - 1}, {1 << 63, 63, 1<<63 - 1}, {1 << 63, 64, 1<<63 - 1},
		// Numbers of the mask above n say nothing.
		{1<<63 + 9, 5, 22}, {1<<63 + 9, 3, 6}, {1<<63 + 9, 4, 6}, {full - 1, 1, 1}, {from(5), 5, 31}, {from(5), 6, 31},
	} {
		wantMask(t, "Not", c.m.Not(c.n), c.wanted)
	}
	for _, m := range []mask.Mask{0, full, 9, 1<<63 + 9} {
		for _, n := range []int{0, -1, -2, -63, -64, -65, -1 << 32, 1 - 1<<32, math.MinInt + 1, math.MinInt} {
			wantMask(t, "Not of no numbers", m.Not(n), 0)
		}
		for _, n := range []int{64, 65, 127, 128, 1 << 32, 1<<32 + 1, math.MaxInt - 1, math.MaxInt} {
			wantMask(t, "Not of all numbers", m.Not(n), full-m)
		}
	}
}

// P13.3: of nothing, of one number, of all.
func TestCount(t *testing.T) {
	for _, c := range []struct {
		m      mask.Mask
		wanted int
	}{{0, 0}, {1, 1}, {1 << 63, 1}, {1 << 32, 1}, {3 << 31, 2}, {9, 2}, {1<<63 + 9, 3}, {full / 3, 32}, {full / 3 * 2, 32}, {full - 1, 63}, {full / 2, 63}, {math.MaxUint32, 32}, {full, 64}} {
		if got := c.m.Count(); got != c.wanted {
			t.Errorf("Count of %x: %d; want %d", c.m, got, c.wanted)
		}
	}
	for i := range 64 {
		if a, b, c := one(i).Count(), (full - one(i)).Count(), from(i).Count(); a != 1 || b != 63 || c != 64-i {
			t.Error("Count:", i, a, b, c)
		}
	}
}

// P13.3: below numbers that are in the mask and that are not, and that are in none.
func TestRank(t *testing.T) {
	a := mask.Mask(1<<63 + 1<<32 + 9)
	for _, c := range []struct{ i, wanted int }{{0, 0}, {1, 1}, {2, 1}, {3, 1}, {4, 2}, {31, 2}, {32, 2}, {33, 3}, {62, 3}, {63, 3}, {64, 4}, {65, 4}, {1 << 32, 4}, {math.MaxInt - 1, 4}, {math.MaxInt, 4}, {-1, 0}, {-5, 0}, {-64, 0}, {-1 << 32, 0}, {math.MinInt + 1, 0}, {math.MinInt, 0}} {
		if got := a.Rank(c.i); got != c.wanted {
			t.Errorf("Rank(%d): %d; want %d", c.i, got, c.wanted)
		}
	}
	for _, i := range asked() {
		if got := mask.Mask(0).Rank(i); got != 0 {
			t.Errorf("Rank(%d) of nothing: %d", i, got)
		}
		if got, wanted := full.Rank(i), max(0, min(i, 64)); got != wanted {
			t.Errorf("Rank(%d) of all: %d; want %d", i, got, wanted)
		}
	}
}

// P13.3: each place, the first one behind the last, places that are none.
func TestSelect(t *testing.T) {
	a := mask.Mask(1<<63 + 1<<32 + 9)
	for _, c := range []struct {
		k, wanted int
		there     bool
	}{{0, 0, true}, {1, 3, true}, {2, 32, true}, {3, 63, true}, {4, 0, false}, {5, 0, false}, {63, 0, false}, {64, 0, false}} {
		k, is := a.Select(c.k)
		wantPlace(t, "Select", a, c.k, k, is, c.wanted, c.there)
	}
	for i := range 64 {
		k, is := full.Select(i)
		wantPlace(t, "Select", full, i, k, is, i, true)
		k, is = one(i).Select(0)
		wantPlace(t, "Select", one(i), 0, k, is, i, true)
		k, is = one(i).Select(1)
		wantPlace(t, "Select", one(i), 1, k, is, 0, false)
	}
	for _, k := range wrong() {
		for _, m := range []mask.Mask{0, 1, a, full} {
			got, is := m.Select(k)
			wantPlace(t, "Select", m, k, got, is, 0, false)
		}
	}
	for _, k := range asked() {
		got, is := mask.Mask(0).Select(k)
		wantPlace(t, "Select", 0, k, got, is, 0, false)
	}
}

// P13.3: above each number, above what is below all, above the last one and what is in no mask.
func TestNext(t *testing.T) {
	a := mask.Mask(1<<63 + 1<<32 + 9)
	for _, c := range []struct {
		i, wanted int
		there     bool
	}{{-1, 0, true}, {-2, 0, true}, {-9, 0, true}, {math.MinInt, 0, true}, {math.MinInt + 1, 0, true}, {-1 << 32, 0, true}, {0, 3, true}, {1, 3, true}, {2, 3, true}, {3, 32, true}, {4, 32, true}, {31, 32, true}, {32, 63, true}, {33, 63, true}, {62, 63, true}, {63, 0, false}, {64, 0, false}, {65, 0, false}, {1 << 32, 0, false}, {math.MaxInt - 1, 0, false}, {math.MaxInt, 0, false}} {
		k, is := a.Next(c.i)
		wantPlace(t, "Next", a, c.i, k, is, c.wanted, c.there)
	}
	for _, i := range asked() {
		k, is := mask.Mask(0).Next(i)
		wantPlace(t, "Next", 0, i, k, is, 0, false)
		k, is = full.Next(i)
		if i >= 63 {
			wantPlace(t, "Next", full, i, k, is, 0, false)
		} else {
			wantPlace(t, "Next", full, i, k, is, max(0, i+1), true)
		}
	}
	// Without 0: the place 0 where there is none is not a number of the mask.
	for _, m := range []mask.Mask{2, 6, 1 << 62} {
		k, is := m.Next(62)
		wantPlace(t, "Next", m, 62, k, is, 0, false)
	}
	k, is := mask.Mask(1 << 63).Next(62)
	wantPlace(t, "Next", 1<<63, 62, k, is, 63, true)
}

// The chapter's examples, row by row.
func TestExamples(t *testing.T) {
	a, fault := mask.Of(3, 0, 63, 3)
	if a != 1<<63+9 || fault != api.OK {
		t.Fatalf("Of(3, 0, 63, 3): %x, %v", a, fault)
	}
	wantOf(t, api.ErrArg, 64)
	wantOf(t, api.ErrArg, -1)
	wantOf(t, api.OK)
	if !a.Has(3) || a.Has(64) || a.With(64) != a {
		t.Error("Has, With:", a.Has(3), a.Has(64), a.With(64))
	}
	wantNumbers(t, "Without(0)", a.Without(0), 3, 63)
	wantNumbers(t, "Not(5)", a.Not(5), 1, 2, 4)
	if a.Not(0) != 0 || a.Not(99).Count() != 61 {
		t.Error("Not:", a.Not(0), a.Not(99).Count())
	}
	if a.Rank(3) != 1 || a.Rank(64) != 3 || a.Rank(-5) != 0 {
		t.Error("Rank:", a.Rank(3), a.Rank(64), a.Rank(-5))
	}
	k, is := a.Select(1)
	wantPlace(t, "Select", a, 1, k, is, 3, true)
	k, is = a.Select(3)
	wantPlace(t, "Select", a, 3, k, is, 0, false)
	for _, c := range []struct {
		i, wanted int
		there     bool
	}{{-1, 0, true}, {3, 63, true}, {63, 0, false}, {-9, 0, true}} {
		k, is := a.Next(c.i)
		wantPlace(t, "Next", a, c.i, k, is, c.wanted, c.there)
	}
	both, _ := mask.Of(0, 3)
	if got := firsts(both.Subsets(), 5); !slices.Equal(got, []mask.Mask{0, 1, 8, 9}) {
		t.Error("Subsets:", got)
	}
}

func wantNumbers(t *testing.T, call string, m mask.Mask, wanted ...int) {
	t.Helper()
	if got := m.Numbers(); !slices.Equal(got, wanted) {
		t.Errorf("%s: %v; want %v", call, got, wanted)
	}
}

// A mask is a word: its value is the sum of its bits', and there are 64 of them.
func TestWord(t *testing.T) {
	if mask.Most != 64 {
		t.Error("Most:", mask.Most)
	}
	for i, value := range powers() {
		m, fault := mask.Of(i)
		if uint64(m) != value || fault != api.OK {
			t.Errorf("Of(%d): %d, %v; want %d", i, uint64(m), fault, value)
		}
	}
	// The calls answer a new mask: the one that they are asked of stays.
	m := mask.Mask(9)
	m.With(5)
	m.Without(0)
	m.Or(6)
	m.And(1)
	m.Less(1)
	m.Not(9)
	if m != 9 {
		t.Error("the mask is changed:", m)
	}
}
