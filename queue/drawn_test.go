package queue_test

import (
	"fmt"
	"math"
	"math/rand"
	"testing"

	"chordmail/api"
	"chordmail/queue"
)

// P12.5: every row of calls up to a length, of small queues: two sorts of Put, a Take of each place, a Take of nothing, and going on with a copy.
func TestAllRows(t *testing.T) {
	for most := 1; most <= 4; most++ {
		long := 5
		if most == 1 {
			long = 6
		}
		rowsFrom(t, newPair(t, most, same[string]), nil, long)
	}
}

// rowsFrom does each call behind a row of calls, on queues that are made anew by doing the row again, so that Copy has no part in it.
func rowsFrom(t *testing.T, b pair[string], done []int, left int) {
	t.Helper()
	b.want(t)
	if left == 0 || t.Failed() {
		return
	}
	for call := range 4 + b.p.most {
		again := newPair(t, b.p.most, same[string])
		for _, call := range append(done[:len(done):len(done)], call) {
			again = doCall(t, again, call)
		}
		rowsFrom(t, again, append(done[:len(done):len(done)], call), left-1)
	}
}

func doCall(t *testing.T, b pair[string], call int) pair[string] {
	t.Helper()
	last, there := b.p.last(), b.p.there()
	switch {
	case call == 0:
		b.put(t, last+1, named(last+1))
	case call == 1:
		b.put(t, last+3, named(last+3))
		b.put(t, last+2, "never")
	case call == 2:
		b.take(t, last+1)
		b.take(t, -1)
	case call == 3:
		c := b.copied()
		c.put(t, last+2, named(last+2))
		if len(there) > 0 {
			b.take(t, there[len(there)-1].id)
		}
		return c
	case call-4 < len(there):
		b.take(t, there[call-4].id)
	}
	return b
}

// tally is how often something came about.
type tally map[string]int

func (c tally) want(t *testing.T, least int, names ...string) {
	t.Helper()
	for _, name := range names {
		if c[name] < least {
			t.Errorf("%s: just %d times", name, c[name])
		}
	}
}

// drawnCall draws a call and does it. Now and then more is taken or put in than the other, so that queues run full and empty.
func drawnCall(t *testing.T, r *rand.Rand, b pair[string], much int, c tally) {
	t.Helper()
	last, there := b.p.last(), b.p.there()
	switch n := r.Intn(20); {
	case n < 8+much:
		id := last + 1
		if r.Intn(3) == 0 {
			id += r.Intn(5)
		}
		c[fmt.Sprint("put ", int(b.put(t, id, named(id))))]++
	case n == 18:
		id := last - r.Intn(last+3)
		c[fmt.Sprint("put ", int(b.put(t, id, "never")))]++
	case n == 19 || len(there) == 0:
		c[fmt.Sprint("take ", int(b.take(t, r.Intn(last+3)-1)))]++
	default:
		at := r.Intn(len(there))
		if r.Intn(2) == 0 {
			at = min(at, r.Intn(3))
		}
		c[fmt.Sprint("take ", int(b.take(t, there[at].id)))]++
	}
}

// P12.5: long rows of drawn calls at each number of places, so that the ring goes round many times.
func TestDrawn(t *testing.T) {
	r := rand.New(rand.NewSource(12))
	c := tally{}
	for most := 1; most <= 24; most++ {
		for range 3 {
			b := newPair(t, most, same[string])
			for i := range 300 {
				drawnCall(t, r, b, []int{6, 0, -4}[i/40%3], c)
				switch there := len(b.p.there()); {
				case there == 0:
					c["empty"]++
				case there == most:
					c["full"]++
				}
				b.want(t)
			}
			if t.Failed() {
				return
			}
		}
	}
	c.want(t, 500, "put 0", "put 2", "put 120", "take 0", "take 121", "empty", "full")
}

// P12.4: queues that go on from one another by Copy, each with calls of its own.
func TestDrawnCopies(t *testing.T) {
	r := rand.New(rand.NewSource(13))
	c := tally{}
	for most := 1; most <= 16; most++ {
		all := []pair[string]{newPair(t, most, same[string])}
		for i := range 250 {
			if i%25 == 24 {
				all = append(all, all[r.Intn(len(all))].copied())
			}
			drawnCall(t, r, all[r.Intn(len(all))], 2, c)
			if i%10 == 0 {
				for _, b := range all {
					b.want(t)
				}
			}
		}
		if t.Failed() {
			return
		}
	}
	c.want(t, 100, "put 0", "put 2", "put 120", "take 0", "take 121")
}

// P12.5: a queue that stays full, or almost, while its things go through it, at each number of places: the ring wraps at each step.
func TestRoundAndRound(t *testing.T) {
	for most := 1; most <= 33; most++ {
		for keep := range most {
			q := made[int](t, most)
			for i := range 4 * most {
				if fault := q.Put(i, i*i); fault != api.OK {
					t.Fatal(most, keep, i, fault)
				}
				if i < keep {
					continue
				}
				if x, fault := q.Take(i - keep); x != (i-keep)*(i-keep) || fault != api.OK {
					t.Fatal(most, keep, i, x, fault)
				}
				if id, _, is := q.At(0); is != (keep > 0) || is && id != i-keep+1 || q.Len() != keep {
					t.Fatal(most, keep, i, id, is, q.Len())
				}
			}
			wantInOrder(t, q, most)
		}
	}
}

// P12.5: numbers from all over the ints, up to the greatest one.
func TestDrawnNumbers(t *testing.T) {
	r := rand.New(rand.NewSource(14))
	for range 300 {
		b := newPair(t, 1+r.Intn(9), same[string])
		for range 60 {
			id := int(r.Uint64() >> r.Intn(64))
			if r.Intn(4) == 0 {
				id = b.p.last() + r.Intn(3) - 1
			}
			b.put(t, id, named(id))
			if there := b.p.there(); len(there) > 0 && r.Intn(2) == 0 {
				b.take(t, there[r.Intn(len(there))].id)
			}
			b.take(t, id+1)
		}
		b.want(t)
		b.put(t, math.MaxInt, "greatest")
		b.put(t, math.MinInt, "never")
		b.want(t)
	}
}

// P12.5: a queue of very many things, taken from its beginning, its end and its middle.
func TestMany(t *testing.T) {
	const many = 20000
	q := made[int](t, many)
	for i := range many {
		if fault := q.Put(2*i, -i); fault != api.OK {
			t.Fatal(i, fault)
		}
	}
	if fault := q.Put(2*many, 0); fault != api.ErrQueueFull {
		t.Error(fault)
	}
	first, last := 0, many-1
	for n := range many - 1 {
		i := first
		if n%3 == 1 {
			i = last
		}
		if at, is := q.Find(2 * i); at != i-first || !is {
			t.Fatal(i, at, is)
		}
		if x, fault := q.Take(2 * i); x != -i || fault != api.OK {
			t.Fatal(i, x, fault)
		}
		if i == first {
			first++
		} else {
			last--
		}
		if q.Len() != last-first+1 {
			t.Fatal(n, q.Len())
		}
	}
	wantRows(t, q, same, many-1, 2*many-2, []row[int]{{2 * first, -first}})
	if _, fault := queue.New[int](many); fault != api.OK {
		t.Error(fault)
	}
}
