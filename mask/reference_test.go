package mask_test

import (
	"chordmail/api"
	"chordmail/mask"
)

// set is a plain reference: a list of bools, one a number. Each question is answered by going over all of them.
type set [64]bool

// powers are the values of the bits, by doubling.
func powers() [64]uint64 {
	var l [64]uint64
	l[0] = 1
	for i := 1; i < 64; i++ {
		l[i] = l[i-1] + l[i-1]
	}
	return l
}

// setOf takes a mask apart from its greatest value on.
func setOf(m mask.Mask) set {
	var s set
	values, left := powers(), uint64(m)
	for i := 63; i >= 0; i-- {
		if left >= values[i] {
			s[i] = true
			left -= values[i]
		}
	}
	return s
}

// mask adds the values up.
func (s set) mask() mask.Mask {
	var sum uint64
	values := powers()
	for i, is := range s {
		if is {
			sum += values[i]
		}
	}
	return mask.Mask(sum)
}

// setFrom is what Of is to answer, as a set.
func setFrom(numbers []int) (set, api.Errno) {
	var s set
	for _, n := range numbers {
		there := false
		for i := range s {
			if i == n {
				s[i], there = true, true
			}
		}
		if !there {
			return set{}, api.ErrArg
		}
	}
	return s, api.OK
}

func (s set) has(n int) bool {
	for i, is := range s {
		if i == n {
			return is
		}
	}
	return false
}

// put is the set with n in it, or without it.
func (s set) put(n int, in bool) set {
	for i := range s {
		if i == n {
			s[i] = in
		}
	}
	return s
}

// both is what a rule says of each number, by whether it is in the one set and in the other one.
func (s set) both(o set, rule func(a, b bool) bool) set {
	var l set
	for i := range s {
		l[i] = rule(s[i], o[i])
	}
	return l
}

func (s set) not(n int) set {
	var l set
	for i := range s {
		l[i] = i < n && !s[i]
	}
	return l
}

func (s set) in(o set) bool {
	for i := range s {
		if s[i] && !o[i] {
			return false
		}
	}
	return true
}

func (s set) meets(o set) bool {
	for i := range s {
		if s[i] && o[i] {
			return true
		}
	}
	return false
}

func (s set) numbers() []int {
	var l []int
	for i, is := range s {
		if is {
			l = append(l, i)
		}
	}
	return l
}

func (s set) rank(n int) int {
	below := 0
	for i, is := range s {
		if is && i < n {
			below++
		}
	}
	return below
}

func (s set) pick(k int) (int, bool) {
	for i, is := range s {
		if is && s.rank(i) == k {
			return i, true
		}
	}
	return 0, false
}

func (s set) next(n int) (int, bool) {
	for i, is := range s {
		if is && i > n {
			return i, true
		}
	}
	return 0, false
}

// subsets are the first so many of all masks in s, rising: the greatest number left out, then put in, of each the ones of the lower numbers.
func (s set) subsets(most int) []mask.Mask {
	l := []mask.Mask{0}
	values := powers()
	for i, is := range s {
		if !is {
			continue
		}
		for _, lower := range l {
			if len(l) >= most {
				return l
			}
			l = append(l, lower+mask.Mask(values[i]))
		}
	}
	return l
}
