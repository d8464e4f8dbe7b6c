package mask_test

import (
	"math/rand"
	"slices"
	"testing"

	"chordmail/api"
	"chordmail/mask"
)

// spread lays a small mask's bits at numbers far apart, so that pairs of them meet at both ends and in the middle.
func spread(small int) mask.Mask {
	var s set
	for i, n := range []int{0, 1, 31, 32, 62, 63} {
		s[n] = small>>i&1 == 1
	}
	return s.mask()
}

// P13.2, P13.5: all pairs of masks of small numbers, of great ones, and of numbers far apart.
func TestAllPairs(t *testing.T) {
	for a := range 64 {
		for b := range 64 {
			for _, lay := range []func(int) mask.Mask{
				func(n int) mask.Mask { return mask.Mask(n) },
				func(n int) mask.Mask { return mask.Mask(n) << 58 },
				func(n int) mask.Mask { return mask.Mask(n) << 29 },
				spread,
			} {
				wantBoth(t, lay(a), lay(b))
				wantSets(t, lay(a), lay(b))
			}
		}
	}
}

// P13.1, P13.3, P13.4, P13.6: all masks of small numbers, of great ones, and of numbers far apart.
func TestAllSmall(t *testing.T) {
	for n := range 256 {
		for _, m := range []mask.Mask{mask.Mask(n), mask.Mask(n) << 56, mask.Mask(n) << 28, spread(n % 64), full - mask.Mask(n)} {
			wantAlone(t, m)
			wantPlaces(t, m)
		}
	}
}

// P13.1: all lists of up to four of some numbers, right and wrong, in each order.
func TestAllLists(t *testing.T) {
	some := []int{0, 1, 31, 32, 63, 64, -1}
	lists := [][]int{nil}
	for from := 0; len(lists[len(lists)-1]) < 4; {
		to := len(lists)
		for ; from < to; from++ {
			for _, n := range some {
				lists = append(lists, append(lists[from][:len(lists[from]):len(lists[from])], n))
			}
		}
	}
	for _, l := range lists {
		fault := api.OK
		for _, n := range l {
			if n == 64 || n == -1 {
				fault = api.ErrArg
			}
		}
		wantOf(t, fault, l...)
	}
	if len(lists) != 1+7+49+343+2401 {
		t.Error("lists:", len(lists))
	}
}

// P13.1 to P13.6: drawn masks and numbers against the reference.
func TestDrawn(t *testing.T) {
	r := rand.New(rand.NewSource(13))
	counts := map[int]int{}
	met, within := map[bool]int{}, map[bool]int{}
	for i := range 3000 {
		a, b := drawnMask(r), drawnMask(r)
		if i%4 == 0 {
			b |= a
		}
		if i%4 == 1 {
			b &= full - a
		}
		wantBoth(t, a, b)
		wantSets(t, a, b)
		if i%3 == 0 {
			wantAlone(t, a)
			wantPlaces(t, a)
		}
		counts[len(setOf(a).numbers())/8]++
		met[a&b != 0]++
		within[a|b == b]++
	}
	if len(counts) != 9 || min(met[true], met[false], within[true], within[false]) < 500 {
		t.Error("too much alike:", counts, met, within)
	}
}

// P13.1: drawn lists, short and long, some of them with a wrong number at a drawn place.
func TestDrawnLists(t *testing.T) {
	r := rand.New(rand.NewSource(131))
	bad := wrong()
	for range 4000 {
		var l []int
		for range r.Intn(r.Intn(200) + 1) {
			l = append(l, r.Intn(64))
		}
		fault := api.OK
		if len(l) > 0 && r.Intn(3) == 0 {
			l[r.Intn(len(l))] = bad[r.Intn(len(bad))]
			fault = api.ErrArg
		}
		wantOf(t, fault, l...)
	}
}

// P13.1, P13.5: long rows of With and Without, which come to what is in the reference at each step.
func TestDrawnRows(t *testing.T) {
	r := rand.New(rand.NewSource(132))
	for range 50 {
		m := mask.Mask(0)
		var s set
		for range 200 {
			n := r.Intn(70) - 3
			in := r.Intn(2) == 0
			s = s.put(n, in)
			if in {
				m = m.With(n)
			} else {
				m = m.Without(n)
			}
			if m != s.mask() || !slices.Equal(m.Numbers(), s.numbers()) {
				complain(t, "%v; want %v", m.Numbers(), s.numbers())
			}
		}
	}
}
