package queue_test

import (
	"fmt"
	"math"
	"strings"
	"testing"

	"chordmail/api"
	"chordmail/queue"
)

// idsOf are the numbers that a sequence tells, as a text; things that are not named by them stand out.
func idsOf(q *queue.Queue[string]) string {
	var told []string
	for _, r := range toldBy(q.Each(), 100) {
		s := fmt.Sprint(r.id)
		if r.x != named(r.id) {
			s += r.x
		}
		told = append(told, s)
	}
	return strings.Join(told, " ")
}

// P12.4: of no thing, of one, of several, wherever the ring begins; left, and gone over again.
func TestEach(t *testing.T) {
	wantSeq(t, filled(t, 3).Each(), same, nil)
	wantSeq(t, filled(t, 3, 7).Each(), same, namedRows(7))
	wantSeq(t, filled(t, 3, 0, 7).Each(), same, namedRows(0, 7))
	for many := 1; many < 9; many++ {
		for by := range many {
			wantSeq(t, wrapped(t, many, by).Each(), same, namedRows(count(100, many)...))
		}
	}
	emptied := filled(t, 1, 4)
	wantTake(t, emptied, 4)
	wantSeq(t, emptied.Each(), same, nil)
}

// P12.4: a loop that is left behind the first, a middle and the last thing, by break, by a label and by return; then gone over again.
func TestEachLeft(t *testing.T) {
	q := wrapped(t, 5, 3)
	seq := q.Each()
	for n := 1; n <= 5; n++ {
		got := 0
		for id, x := range seq {
			if id != 100+got || x != named(id) {
				complain(t, "%d, %q at %d", id, x, got)
			}
			if got++; got == n {
				break
			}
		}
		if got != n {
			complain(t, "%d things; want %d", got, n)
		}
		wantSeq(t, seq, same, namedRows(count(100, 5)...))
	}
	first := func() int {
		for id := range seq {
			return id
		}
		return -1
	}
	if first() != 100 || first() != 100 {
		t.Error("first", first())
	}
	seen := 0
outer:
	for range 3 {
		for id := range seq {
			if seen++; id == 102 {
				continue outer
			}
		}
	}
	if seen != 9 {
		t.Error("seen", seen)
	}
	wantIDs(t, q, 0, 104, count(100, 5)...)
}

// P12.4: gone over twice at once, one within the other, by one sequence and by two.
func TestEachWithin(t *testing.T) {
	q := wrapped(t, 4, 2)
	a, b := q.Each(), q.Each()
	told := 0
	for i := range a {
		inner := 0
		for j, x := range a {
			for k := range b {
				if k == j {
					break
				}
				inner++
			}
			if x != named(j) {
				complain(t, "%d, %q", j, x)
			}
		}
		if inner != 6 || i != 100+told {
			complain(t, "%d of %d: %d within; want 6", i, told, inner)
		}
		told++
	}
	if told != 4 {
		t.Error("told", told)
	}
}

// P12.4: a sequence tells the things as they are when it begins to be gone over, not as they were when it was asked for.
func TestEachBegins(t *testing.T) {
	q := filled(t, 3)
	seq := q.Each()
	wantSeq(t, seq, same, nil)
	wantPut(t, q, 4, api.OK)
	wantSeq(t, seq, same, namedRows(4))
	wantPut(t, q, 6, api.OK)
	wantPut(t, q, 7, api.OK)
	wantSeq(t, seq, same, namedRows(4, 6, 7))
	wantTake(t, q, 6)
	wantSeq(t, seq, same, namedRows(4, 7))
	wantTake(t, q, 4)
	wantPut(t, q, 8, api.OK)
	wantSeq(t, seq, same, namedRows(7, 8))
	wantTake(t, q, 7)
	wantTake(t, q, 8)
	wantSeq(t, seq, same, nil)
}

// changes are what is done to the queue of 100 to 103, which is full or has room, in the midst of a sequence, and what is there behind it.
func changes() []struct {
	name  string
	do    func(t *testing.T, q *queue.Queue[string])
	there []int
} {
	type queued = *queue.Queue[string]
	return []struct {
		name  string
		do    func(t *testing.T, q *queue.Queue[string])
		there []int
	}{
		{"nothing", func(*testing.T, queued) {}, []int{100, 101, 102, 103}},
		{"the first one taken", func(t *testing.T, q queued) { wantTake(t, q, 100) }, []int{101, 102, 103}},
		{"the second one taken", func(t *testing.T, q queued) { wantTake(t, q, 101) }, []int{100, 102, 103}},
		{"the third one taken", func(t *testing.T, q queued) { wantTake(t, q, 102) }, []int{100, 101, 103}},
		{"the last one taken", func(t *testing.T, q queued) { wantTake(t, q, 103) }, []int{100, 101, 102}},
		{"the first one taken, another put in", func(t *testing.T, q queued) {
			wantTake(t, q, 100)
			wantPut(t, q, 104, api.OK)
		}, []int{101, 102, 103, 104}},
		{"all taken", func(t *testing.T, q queued) {
			for _, id := range []int{102, 100, 103, 101} {
				wantTake(t, q, id)
			}
		}, nil},
		{"all taken, others put in", func(t *testing.T, q queued) {
			for i := range 4 {
				wantTake(t, q, 100+i)
				wantPut(t, q, 200+i, api.OK)
			}
		}, []int{200, 201, 202, 203}},
	}
}

// P12.4: calls of Put and Take in the midst of a sequence, behind each of its things: what it tells stays, and the next going over tells what came of them.
func TestEachInTheMidst(t *testing.T) {
	for _, most := range []int{4, 5, 9, math.MaxInt} {
		for by := range 4 {
			for _, change := range changes() {
				for when := range 4 {
					q := wrapped(t, 4, by)
					if most > 4 {
						q = filled(t, most, count(100, 4)...)
					}
					seq := q.Each()
					var got []row[string]
					for id, x := range seq {
						if len(got) == when {
							change.do(t, q)
							wantSeq(t, seq, same, namedRows(change.there...))
						}
						got = append(got, row[string]{id, x})
					}
					if wanted := namedRows(count(100, 4)...); fmt.Sprint(got) != fmt.Sprint(wanted) {
						complain(t, "%s behind %d: %v; want %v", change.name, when, got, wanted)
					}
					wantSeq(t, seq, same, namedRows(change.there...))
					wantIDs(t, q, most-len(change.there), q.Last(), change.there...)
				}
			}
		}
	}
}

// P12.4: each thing taken as it is told, and each put in again under another number.
func TestEachAndTake(t *testing.T) {
	q := wrapped(t, 6, 4)
	for id, x := range q.Each() {
		wantTake(t, q, id)
		if fault := q.Put(id+100, x); fault != api.OK {
			t.Error(id, fault)
		}
	}
	if got, wanted := idsOf(q), "200t100 201t101 202t102 203t103 204t104 205t105"; got != wanted {
		t.Errorf("%s; want %s", got, wanted)
	}
	for id := range q.Each() {
		if _, fault := q.Take(id); fault != api.OK {
			t.Error(id, fault)
		}
	}
	wantIDs(t, q, 6, 205)
}

// P12.4: the same room and the same last number, of an empty queue, of one that was emptied, of a full one.
func TestCopy(t *testing.T) {
	wantIDs(t, filled(t, 3).Copy(), 3, -1)
	wantIDs(t, filled(t, 3, 0).Copy(), 2, 0, 0)
	wantIDs(t, filled(t, 3, 2, 5).Copy(), 1, 5, 2, 5)
	wantIDs(t, filled(t, 2, 2, 5).Copy(), 0, 5, 2, 5)
	emptied := filled(t, 2, 2, 5)
	wantTake(t, emptied, 5)
	wantIDs(t, emptied.Copy(), 1, 5, 2)
	wantTake(t, emptied, 2)
	c := emptied.Copy()
	wantIDs(t, c, 2, 5)
	wantPut(t, c, 5, api.ErrArg)
	wantPut(t, c, 6, api.OK)
	wantPut(t, c, 7, api.OK)
	wantPut(t, c, 8, api.ErrQueueFull)
	wantIDs(t, c, 0, 7, 6, 7)
	wantIDs(t, emptied, 2, 5)
	for many := 1; many < 9; many++ {
		for by := range many {
			wantIDs(t, wrapped(t, many, by).Copy(), 0, 99+many, count(100, many)...)
			wantIDs(t, wrapped(t, many, by).Copy().Copy(), 0, 99+many, count(100, many)...)
		}
	}
}

// P12.4: a queue and its copy have nothing to do with one another, whichever is changed.
func TestCopyApart(t *testing.T) {
	for _, change := range changes() {
		for by := range 4 {
			for _, most := range []int{4, 7} {
				of := func() *queue.Queue[string] {
					if most > 4 {
						return filled(t, most, count(100, 4)...)
					}
					return wrapped(t, 4, by)
				}
				q := of()
				c := q.Copy()
				seqQ, seqC := q.Each(), c.Each()
				change.do(t, q)
				wantIDs(t, c, most-4, 103, count(100, 4)...)
				wantSeq(t, seqC, same, namedRows(count(100, 4)...))
				wantSeq(t, seqQ, same, namedRows(change.there...))

				q = of()
				c = q.Copy()
				change.do(t, c)
				wantIDs(t, q, most-4, 103, count(100, 4)...)
				wantIDs(t, c, most-len(change.there), c.Last(), change.there...)

				q = of()
				c = q.Copy()
				change.do(t, q)
				for i := range 4 {
					wantTake(t, c, 103-i)
				}
				wantIDs(t, q, most-len(change.there), q.Last(), change.there...)
				wantIDs(t, c, most, 103)
			}
		}
	}
}

// wantNothing holds what a nil queue answers to each call.
func wantNothing[T comparable](t *testing.T, x T) {
	t.Helper()
	var q *queue.Queue[T]
	var zero T
	for _, id := range []int{math.MinInt, -1, 0, 1, 7, math.MaxInt} {
		if fault := q.Put(id, x); fault != api.ErrNil {
			t.Errorf("Put(%d) of nil: %v", id, fault)
		}
		if x, fault := q.Take(id); x != zero || fault != api.ErrNil {
			t.Errorf("Take(%d) of nil: %v, %v", id, x, fault)
		}
	}
	if q.Copy() != nil {
		t.Error("Copy of nil")
	}
	wantRows(t, q, same, 0, -1, nil)
}

// P12.2 to P12.4, P0.1: each call of a nil queue.
func TestNil(t *testing.T) {
	wantNothing(t, 5)
	wantNothing(t, "x")
	wantNothing(t, new(int))
	wantNothing(t, row[string]{1, "x"})
	wantNothing(t, any(3))
	for range (*queue.Queue[int])(nil).Each() {
		t.Error("a nil queue has a thing")
	}
}

// P0.1: a queue that New did not make: nothing goes in, and no call panics.
func TestUnmade(t *testing.T) {
	var q queue.Queue[string]
	for range 2 {
		wantPut(t, &q, -1, api.ErrArg)
		wantPut(t, &q, 0, api.ErrQueueFull)
		wantNone(t, &q, -1, 0, 1)
		wantIDs(t, &q, 0, -1)
		wantIDs(t, q.Copy(), 0, -1)
	}
}
