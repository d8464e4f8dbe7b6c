package queue_test

import (
	"fmt"
	"iter"
	"math"
	"slices"
	"testing"

	"chordmail/api"
	"chordmail/queue"
)

// complain tells what is wrong, shortened: some queues are long.
func complain(t *testing.T, format string, of ...any) {
	t.Helper()
	said := fmt.Sprintf(format, of...)
	if len(said) > 600 {
		said = said[:600] + ".."
	}
	t.Error(said)
}

// row is a thing with its number.
type row[T any] struct {
	id int
	x  T
}

// named is the thing that most tests put in with a number: no two numbers have the same one.
func named(id int) string { return fmt.Sprint("t", id) }

func namedRows(ids ...int) []row[string] {
	var l []row[string]
	for _, id := range ids {
		l = append(l, row[string]{id, named(id)})
	}
	return l
}

func same[T comparable](a, b T) bool { return a == b }

// made is a new queue, which must be one.
func made[T any](t *testing.T, most int) *queue.Queue[T] {
	t.Helper()
	q, fault := queue.New[T](most)
	if fault != api.OK || q == nil {
		t.Fatalf("New(%d): %v, %v", most, q, fault)
	}
	return q
}

// filled is a queue of at most so many texts, into which the things of these numbers were put.
func filled(t *testing.T, most int, ids ...int) *queue.Queue[string] {
	t.Helper()
	q := made[string](t, most)
	for _, id := range ids {
		wantPut(t, q, id, api.OK)
	}
	return q
}

// wrapped is a full queue of so many texts, from the number 100 on, whose ring's beginning was moved on by so many places.
func wrapped(t *testing.T, many, by int) *queue.Queue[string] {
	t.Helper()
	q := filled(t, many, count(100-by, many)...)
	for i := range by {
		wantTake(t, q, 100-by+i)
		wantPut(t, q, 100-by+many+i, api.OK)
	}
	return q
}

// count are so many numbers, from a first one on.
func count(first, many int) []int {
	var l []int
	for i := range many {
		l = append(l, first+i)
	}
	return l
}

func wantPut(t *testing.T, q *queue.Queue[string], id int, wanted api.Errno) {
	t.Helper()
	if fault := q.Put(id, named(id)); fault != wanted {
		complain(t, "Put(%d): %v; want %v", id, fault, wanted)
	}
}

func wantTake(t *testing.T, q *queue.Queue[string], id int) {
	t.Helper()
	if x, fault := q.Take(id); x != named(id) || fault != api.OK {
		complain(t, "Take(%d): %q, %v; want %q", id, x, fault, named(id))
	}
}

// wantNone holds that there is no thing of these numbers.
func wantNone(t *testing.T, q *queue.Queue[string], ids ...int) {
	t.Helper()
	for _, id := range ids {
		if x, fault := q.Take(id); x != "" || fault != api.ErrQueueNone {
			complain(t, "Take(%d): %q, %v; want ErrQueueNone", id, x, fault)
		}
		if at, is := q.Find(id); at != 0 || is {
			complain(t, "Find(%d): %d, %v; want none", id, at, is)
		}
	}
}

// wantIDs holds what a queue of named things tells.
func wantIDs(t *testing.T, q *queue.Queue[string], room, last int, ids ...int) {
	t.Helper()
	wantRows(t, q, same, room, last, namedRows(ids...))
}

// wantRows holds each question's answer: these things, in this order, that much room and this last number.
func wantRows[T any](t *testing.T, q *queue.Queue[T], same func(a, b T) bool, room, last int, rows []row[T]) {
	t.Helper()
	if q.Len() != len(rows) || q.Room() != room || q.Last() != last {
		complain(t, "Len, Room, Last: %d, %d, %d; want %d, %d, %d", q.Len(), q.Room(), q.Last(), len(rows), room, last)
	}
	for i, r := range rows {
		if id, x, is := q.At(i); id != r.id || !same(x, r.x) || !is {
			complain(t, "At(%d): %d, %v, %v; want %v", i, id, x, is, r)
		}
	}
	var zero T
	for _, i := range []int{math.MinInt, -len(rows) - 1, -len(rows), -2, -1, len(rows), len(rows) + 1, 2 * len(rows), len(rows) + room, math.MaxInt} {
		if i >= 0 && i < len(rows) {
			continue
		}
		if id, x, is := q.At(i); id != 0 || !same(x, zero) || is {
			complain(t, "At(%d): %d, %v, %v; want none", i, id, x, is)
		}
	}
	wantPlaces(t, q, rows)
	seq := q.Each()
	wantSeq(t, seq, same, rows)
	wantSeq(t, seq, same, rows)
}

// wantPlaces holds where the numbers are found, and that those beside them are not.
func wantPlaces[T any](t *testing.T, q *queue.Queue[T], rows []row[T]) {
	t.Helper()
	at := map[int]int{}
	asked := []int{math.MinInt, -1, 0, 1, q.Last() - 1, q.Last(), q.Last() + 1, math.MaxInt}
	for i, r := range rows {
		at[r.id] = i
		asked = append(asked, r.id-1, r.id, r.id+1, -r.id)
	}
	for _, id := range asked {
		wanted, there := at[id]
		if i, is := q.Find(id); i != wanted || is != there {
			complain(t, "Find(%d): %d, %v; want %d, %v", id, i, is, wanted, there)
		}
	}
}

// toldBy are the rows that a sequence tells, and no more than one above most: more there can't be.
func toldBy[T any](seq iter.Seq2[int, T], most int) []row[T] {
	var l []row[T]
	for id, x := range seq {
		if l = append(l, row[T]{id, x}); len(l) > most {
			break
		}
	}
	return l
}

// wantSeq holds what a sequence tells, as a whole and left behind each of its rows.
func wantSeq[T any](t *testing.T, seq iter.Seq2[int, T], same func(a, b T) bool, rows []row[T]) {
	t.Helper()
	if seq == nil {
		t.Fatal("no sequence")
	}
	sameRows := func(a, b []row[T]) bool {
		return slices.EqualFunc(a, b, func(x, y row[T]) bool { return x.id == y.id && same(x.x, y.x) })
	}
	if got := toldBy(seq, len(rows)); !sameRows(got, rows) {
		complain(t, "Each: %v; want %v", got, rows)
	}
	for _, n := range []int{1, 2, len(rows) / 2, len(rows) - 1, len(rows)} {
		if n < 1 || n > len(rows) {
			continue
		}
		var got []row[T]
		seq(func(id int, x T) bool {
			if len(got) == n {
				complain(t, "Each goes on behind %d things", n)
			}
			got = append(got, row[T]{id, x})
			return len(got) < n
		})
		if !sameRows(got, rows[:n]) {
			complain(t, "Each left behind %d: %v; want %v", n, got, rows[:n])
		}
	}
}
