package queue_test

import (
	"math"
	"testing"

	"chordmail/api"
	"chordmail/queue"
)

// P12.1: so many places and no thing.
func TestNew(t *testing.T) {
	for _, most := range []int{1, 2, 3, 7, 12, 1000, 1 << 20, 1 << 40, math.MaxInt - 1, math.MaxInt} {
		wantIDs(t, made[string](t, most), most, -1)
		wantRows(t, made[struct{}](t, most), same, most, -1, nil)
		wantRows(t, made[[1 << 16]byte](t, most), same, most, -1, nil)
	}
	for _, most := range []int{0, -1, -2, -12, math.MinInt + 1, math.MinInt} {
		if q, fault := queue.New[string](most); q != nil || fault != api.ErrArg {
			t.Errorf("New(%d): %v, %v; want ErrArg", most, q, fault)
		}
		if q, fault := queue.New[*int](most); q != nil || fault != api.ErrArg {
			t.Errorf("New(%d) of pointers: %v, %v; want ErrArg", most, q, fault)
		}
	}
}

// P12.1: just so many things go in, and two queues have nothing to do with one another.
func TestNewHolds(t *testing.T) {
	for most := 1; most <= 40; most++ {
		a, b := made[string](t, most), made[string](t, most)
		for i := range most {
			wantIDs(t, a, most-i, i-1, count(0, i)...)
			wantPut(t, a, i, api.OK)
		}
		wantPut(t, a, most, api.ErrQueueFull)
		wantIDs(t, a, 0, most-1, count(0, most)...)
		wantIDs(t, b, most, -1)
	}
}

// P12.1: of a great number of places few are used.
func TestGreat(t *testing.T) {
	for _, most := range []int{1 << 40, math.MaxInt - 1, math.MaxInt} {
		q := filled(t, most, count(5, 100)...)
		wantIDs(t, q, most-100, 104, count(5, 100)...)
		for i := range 70 {
			wantTake(t, q, 5+i)
		}
		wantIDs(t, q, most-30, 104, count(75, 30)...)
		wantPut(t, q, math.MaxInt, api.OK)
		c := q.Copy()
		wantIDs(t, c, most-31, math.MaxInt, append(count(75, 30), math.MaxInt)...)
		wantPut(t, c, math.MaxInt, api.ErrArg)
	}
	great := made[[1 << 16]byte](t, math.MaxInt)
	for i := range 20 {
		if fault := great.Put(i, [1 << 16]byte{1: byte(i)}); fault != api.OK {
			t.Fatal(i, fault)
		}
	}
	if _, x, is := great.At(19); !is || x[1] != 19 || great.Room() != math.MaxInt-20 {
		t.Error("great things", is, x[1], great.Room())
	}
}

// P12.2: behind all others, up to a full queue.
func TestPut(t *testing.T) {
	q := filled(t, 3)
	wantPut(t, q, 4, api.OK)
	wantIDs(t, q, 2, 4, 4)
	wantPut(t, q, 5, api.OK)
	wantIDs(t, q, 1, 5, 4, 5)
	wantPut(t, q, 1000000, api.OK)
	wantIDs(t, q, 0, 1000000, 4, 5, 1000000)
	wantPut(t, q, 1000001, api.ErrQueueFull)
	wantPut(t, q, math.MaxInt, api.ErrQueueFull)
	wantIDs(t, q, 0, 1000000, 4, 5, 1000000)
}

// P12.2: a number that is not above the last one.
func TestPutNotAbove(t *testing.T) {
	for _, most := range []int{3, 4, 12} {
		q := filled(t, most, 2, 7, 9)
		for _, id := range []int{9, 8, 7, 6, 3, 2, 1, 0, -1, -9, math.MinInt + 1, math.MinInt} {
			wantPut(t, q, id, api.ErrArg)
			wantIDs(t, q, most-3, 9, 2, 7, 9)
		}
	}
}

// P12.2: the first number, into a queue that never held any.
func TestPutFirst(t *testing.T) {
	for _, id := range []int{-1, -2, -100, math.MinInt + 1, math.MinInt} {
		q := filled(t, 2)
		wantPut(t, q, id, api.ErrArg)
		wantIDs(t, q, 2, -1)
		wantPut(t, q, 0, api.OK)
		wantPut(t, q, id, api.ErrArg)
		wantIDs(t, q, 1, 0, 0)
	}
	for _, id := range []int{0, 1, 2, 1 << 32, math.MaxInt - 1, math.MaxInt} {
		wantIDs(t, filled(t, 2, id), 1, id, id)
		wantIDs(t, filled(t, 1, id), 0, id, id)
	}
}

// P12.2: behind the greatest int there is no number, wherever its thing is.
func TestPutGreatest(t *testing.T) {
	all := []int{math.MinInt, math.MinInt + 1, -1, 0, 1, 7, math.MaxInt - 1, math.MaxInt}
	for _, ids := range [][]int{{math.MaxInt}, {0, math.MaxInt}, {3, math.MaxInt - 1, math.MaxInt}} {
		q := filled(t, 4, ids...)
		c := q.Copy()
		for _, id := range all {
			wantPut(t, q, id, api.ErrArg)
			wantPut(t, c, id, api.ErrArg)
		}
		wantIDs(t, q, 4-len(ids), math.MaxInt, ids...)
		wantTake(t, q, math.MaxInt)
		for _, id := range all {
			wantPut(t, q, id, api.ErrArg)
		}
		wantIDs(t, q, 5-len(ids), math.MaxInt, ids[:len(ids)-1]...)
		wantIDs(t, q.Copy(), 5-len(ids), math.MaxInt, ids[:len(ids)-1]...)
	}
}

// P12.2: in a full queue, too, a number that is too small is told first.
func TestPutSmallAndFull(t *testing.T) {
	for most := 1; most < 6; most++ {
		q := filled(t, most, count(10, most)...)
		last := 9 + most
		for _, id := range []int{last, last - 1, 0, -1, math.MinInt} {
			wantPut(t, q, id, api.ErrArg)
		}
		for _, id := range []int{last + 1, last + 2, math.MaxInt} {
			wantPut(t, q, id, api.ErrQueueFull)
		}
		wantIDs(t, q, 0, last, count(10, most)...)
		wantTake(t, q, 10)
		// That 12 and more were refused must not have moved the last number.
		wantPut(t, q, last, api.ErrArg)
		wantPut(t, q, last+1, api.OK)
		wantIDs(t, q, 0, last+1, count(11, most)...)
	}
}

// P12.2: the last number stays when its thing is taken out, in a queue that is empty then as in one that is not.
func TestLastStays(t *testing.T) {
	q := filled(t, 3, 4, 6)
	wantTake(t, q, 6)
	wantIDs(t, q, 2, 6, 4)
	wantPut(t, q, 5, api.ErrArg)
	wantPut(t, q, 6, api.ErrArg)
	wantIDs(t, q, 2, 6, 4)
	wantTake(t, q, 4)
	wantIDs(t, q, 3, 6)
	wantPut(t, q, 4, api.ErrArg)
	wantPut(t, q, 6, api.ErrArg)
	wantPut(t, q, 7, api.OK)
	wantIDs(t, q, 2, 7, 7)
}

// P12.3: each of a queue's things, of queues of many lengths, wherever their rings begin.
func TestTake(t *testing.T) {
	for many := 1; many <= 13; many++ {
		for by := range many + 1 {
			for i := range many {
				q := wrapped(t, many, by)
				ids := count(100, many)
				wantTake(t, q, 100+i)
				left := append(ids[:i:i], ids[i+1:]...)
				wantIDs(t, q, 1, 99+many, left...)
				wantNone(t, q, 100+i)
				wantPut(t, q, 200, api.OK)
				wantIDs(t, q, 0, 200, append(left, 200)...)
			}
		}
	}
}

// P12.3: numbers of which there is no thing.
func TestTakeNone(t *testing.T) {
	ends := []int{math.MinInt, math.MinInt + 1, -1, math.MaxInt - 1, math.MaxInt}
	q := filled(t, 5)
	wantNone(t, q, append(ends, 0, 1, 5)...)
	wantIDs(t, q, 5, -1)
	for _, id := range []int{2, 4, 8, 9} {
		wantPut(t, q, id, api.OK)
	}
	wantNone(t, q, append(ends, 0, 1, 3, 5, 6, 7, 10, 11, -2, -9)...)
	wantIDs(t, q, 1, 9, 2, 4, 8, 9)
	for i, id := range []int{4, 9, 2, 8} {
		wantTake(t, q, id)
		wantNone(t, q, append(ends, id, 3, 5, 10)...)
		wantIDs(t, q, 2+i, 9, [][]int{{2, 8, 9}, {2, 8}, {8}, {}}[i]...)
	}
	wantNone(t, q, append(ends, 0, 2, 4, 8, 9)...)
	// The zero thing stands beside an error, whatever type it has.
	if x, fault := made[*int](t, 1).Take(0); x != nil || fault != api.ErrQueueNone {
		t.Error(x, fault)
	}
	if x, fault := made[[]int](t, 1).Take(0); x != nil || fault != api.ErrQueueNone {
		t.Error(x, fault)
	}
}

// P12.3: the things of a queue in each order of taking them.
func TestTakeAll(t *testing.T) {
	for many := 1; many <= 6; many++ {
		taken := 0
		orders(count(100, many), nil, func(order []int) {
			taken++
			q := wrapped(t, many, taken%many)
			there := count(100, many)
			for _, id := range order {
				i := 0
				for there[i] != id {
					i++
				}
				if at, is := q.Find(id); at != i || !is {
					complain(t, "Find(%d) of %v: %d, %v", id, there, at, is)
				}
				wantTake(t, q, id)
				there = append(there[:i:i], there[i+1:]...)
				wantIDs(t, q, many-len(there), 99+many, there...)
			}
		})
	}
}

// orders hands on each order of the numbers.
func orders(left, done []int, use func([]int)) {
	if len(left) == 0 {
		use(done)
	}
	for i, id := range left {
		orders(append(left[:i:i], left[i+1:]...), append(done[:len(done):len(done)], id), use)
	}
}

// The chapter's examples, row by row.
func TestExamples(t *testing.T) {
	q := made[string](t, 2)
	for _, put := range []struct {
		id     int
		x      string
		wanted api.Errno
	}{{3, "a", api.OK}, {3, "b", api.ErrArg}, {5, "b", api.OK}, {7, "c", api.ErrQueueFull}} {
		if fault := q.Put(put.id, put.x); fault != put.wanted {
			t.Errorf("Put(%d, %q): %v; want %v", put.id, put.x, fault, put.wanted)
		}
	}
	if q.Last() != 5 || q.Len() != 2 || q.Room() != 0 {
		t.Error("Last, Len, Room:", q.Last(), q.Len(), q.Room())
	}
	if id, x, is := q.At(1); id != 5 || x != "b" || !is {
		t.Error("At(1):", id, x, is)
	}
	if at, is := q.Find(5); at != 1 || !is {
		t.Error("Find(5):", at, is)
	}
	if at, is := q.Find(4); at != 0 || is {
		t.Error("Find(4):", at, is)
	}
	if x, fault := q.Take(3); x != "a" || fault != api.OK {
		t.Error("Take(3):", x, fault)
	}
	if x, fault := q.Take(3); x != "" || fault != api.ErrQueueNone {
		t.Error("Take(3) again:", x, fault)
	}
	if at, is := q.Find(5); at != 0 || !is {
		t.Error("Find(5) behind Take:", at, is)
	}
	if fault := q.Put(4, "x"); fault != api.ErrArg {
		t.Error("Put(4):", fault)
	}
	if fault := q.Put(8, "d"); fault != api.OK {
		t.Error("Put(8):", fault)
	}
	wantRows(t, q, same, 0, 8, []row[string]{{5, "b"}, {8, "d"}})
	if q, fault := queue.New[string](0); q != nil || fault != api.ErrArg {
		t.Error("New(0):", q, fault)
	}
	for _, i := range []int{-1, 2} {
		if id, x, is := q.At(i); id != 0 || x != "" || is {
			t.Errorf("At(%d): %d, %q, %v", i, id, x, is)
		}
	}
}
