package bags_test

import (
	"fmt"
	"math"
	"slices"
	"strings"
	"testing"

	"chordmail/api"
)

// P14.3: no ID takes nothing.
func TestTakeNothing(t *testing.T) {
	for _, there := range []string{"", "3a", "3a 4b"} {
		b := filled(t, "a b", there)
		for _, ids := range [][]int{nil, {}, make([]int, 0, 5)} {
			l, fault := b.Take(ids...)
			if len(l) != 0 || fault != api.OK {
				complain(t, "Take of none of %q: %v, %v", there, l, fault)
			}
		}
		last := -1
		for _, m := range mails(there) {
			last = m.ID
		}
		wantHas(t, b, "a b", there, last)
	}
	none := made(t)
	if l, fault := none.Take(); len(l) != 0 || fault != api.OK {
		t.Error("Take of none:", l, fault)
	}
}

// without are the words of a text but those of another one.
func without(text, less string) string {
	words := strings.Fields(less)
	left := slices.DeleteFunc(strings.Fields(text), func(word string) bool { return slices.Contains(words, word) })
	return strings.Join(left, " ")
}

// P14.3: one, several of one tag and of several, in rising and in other orders, all that are there.
func TestTake(t *testing.T) {
	there := "2a 3b 5a 6c 7b 8a"
	for _, taken := range []string{
		"2a", "3b", "5a", "6c", "8a",
		"2a 5a", "5a 2a", "8a 2a", "5a 8a",
		"2a 3b", "3b 2a", "6c 5a 3b", "7b 6c", "8a 7b",
		"2a 5a 8a", "8a 5a 2a", "5a 8a 2a", "7b 3b 6c",
		"2a 3b 5a 6c 7b 8a", "8a 7b 6c 5a 3b 2a", "6c 2a 8a 3b 7b 5a",
	} {
		b := filled(t, "a b c", there)
		wantTake(t, b, mails(taken)...)
		wantHas(t, b, "a b c", without(there, taken), 8)
		for _, m := range mails(taken) {
			wantRefused(t, b, api.ErrQueueNone, m.ID)
		}
		wantHas(t, b, "a b c", without(there, taken), 8)
	}
}

// orders hands on each order of each choice of the numbers.
func orders(left, done []int, use func([]int)) {
	use(done)
	for i, n := range left {
		orders(append(left[:i:i], left[i+1:]...), append(done[:len(done):len(done)], n), use)
	}
}

// P14.3: each choice of five messages, in each order.
func TestTakeEach(t *testing.T) {
	tags := []string{"a", "b", "c"}
	orders([]int{3, 4, 6, 7, 9}, nil, func(ids []int) {
		d := newPair(t, tags...)
		for i, m := range mails("3b 4a 6b 7b 9a") {
			if d.put(t, m) != api.OK {
				t.Fatal(i)
			}
		}
		if d.take(t, ids...) != api.OK {
			complain(t, "%v is not taken", ids)
		}
		d.want(t)
	})
}

// P14.3: two that are alike, also where one of them, or another one, is of no message.
func TestTakeAlike(t *testing.T) {
	there := "2a 3b 5a"
	b := filled(t, "a b", there)
	for _, ids := range [][]int{
		{2, 2}, {3, 3}, {5, 5}, {2, 2, 2},
		{2, 2, 3}, {2, 3, 2}, {3, 2, 2}, {5, 3, 2, 5}, {2, 3, 5, 5},
		{4, 4}, {-1, -1}, {math.MaxInt, math.MaxInt}, {math.MinInt, 2, math.MinInt},
		{2, 2, 4}, {4, 2, 2}, {2, 4, 2}, {4, 4, 2}, {2, 4, 4}, {4, 2, 4}, {4, 6, 4}, {2, 3, 4, 3},
	} {
		wantRefused(t, b, api.ErrArg, ids...)
		wantHas(t, b, "a b", there, 5)
	}
	long := []int{}
	for i := range 1000 {
		long = append(long, i)
	}
	wantRefused(t, b, api.ErrQueueNone, long...)
	wantRefused(t, b, api.ErrArg, append(long, 0)...)
	wantRefused(t, b, api.ErrArg, append(long, 999)...)
	wantRefused(t, b, api.ErrArg, slices.Repeat([]int{3}, 1000)...)
	wantHas(t, b, "a b", there, 5)
	none := made(t)
	wantRefused(t, none, api.ErrArg, 7, 7)
	wantRefused(t, none, api.ErrQueueNone, 7)
	wantHas(t, none, "", "", -1)
}

// P14.3: an ID that was never put in, at each place among those that are there: nothing is taken.
func TestTakeNone(t *testing.T) {
	there := "2a 4b 6a 8c"
	b := filled(t, "a b c", there)
	for _, none := range []int{math.MinInt, math.MinInt + 2, -8, -2, -1, 0, 1, 3, 5, 7, 9, 10, 2 + 1<<32, math.MaxInt - 1, math.MaxInt} {
		wantRefused(t, b, api.ErrQueueNone, none)
		for _, right := range [][]int{{2}, {8}, {2, 6}, {8, 6, 4, 2}} {
			for at := range len(right) + 1 {
				wantRefused(t, b, api.ErrQueueNone, slices.Insert(slices.Clone(right), at, none)...)
			}
		}
		wantHas(t, b, "a b c", there, 8)
	}
	wantRefused(t, b, api.ErrQueueNone, 3, 5)
	wantRefused(t, b, api.ErrQueueNone, 3, 2, 5)
	wantHas(t, b, "a b c", there, 8)
}

// P14.3: an ID that was taken already, among right ones, or refused while it was put in.
func TestTakeTwice(t *testing.T) {
	b := filled(t, "a b", "2a 3b 4a 5a")
	wantPut(t, b, mail(6, noTag), api.ErrNoTag)
	wantTake(t, b, mails("4a 3b")...)
	for _, ids := range [][]int{{4}, {3}, {6}, {4, 3}, {2, 4}, {4, 2}, {2, 4, 5}, {5, 2, 3}, {2, 5, 6}} {
		wantRefused(t, b, api.ErrQueueNone, ids...)
		wantHas(t, b, "a b", "2a 5a", 5)
	}
	wantTake(t, b, mails("5a 2a")...)
	wantRefused(t, b, api.ErrQueueNone, 5, 2)
	wantHas(t, b, "a b", "", 5)
}

// P14.3: behind a Take from a full queue there is room again, for as many as were taken.
func TestTakeFromFull(t *testing.T) {
	for _, taken := range []string{"10b", "15b", "21b", "21b 10b", "12b 13b 11b", "10b 1a 21b"} {
		b, there := full(t, 12)
		wantPut(t, b, mail(30, "b"), api.ErrBoxFull)
		wantTake(t, b, mails(taken)...)
		there = without(there, taken)
		id := 30
		for range strings.Count(taken, "b") {
			wantPut(t, b, mail(id, "b"), api.OK)
			there += fmt.Sprint(" ", id, "b")
			id++
		}
		wantPut(t, b, mail(id, "b"), api.ErrBoxFull)
		wantHas(t, b, "a b", there, id-1)
	}
}

// P14.3: a queue of 12 whose messages come and go for long; the mask goes with it.
func TestTakeOnAndOn(t *testing.T) {
	for keep := range 13 {
		d := newPair(t, "a", "b")
		for i := range 40 {
			d.put(t, mail(i, "b"))
			if i >= keep {
				d.take(t, i-keep)
			}
		}
		d.want(t)
	}
}
