package queue_test

import (
	"fmt"
	"math"
	"runtime"
	"slices"
	"sync"
	"testing"
	"weak"

	"chordmail/api"
	"chordmail/queue"
)

// wantThrough holds that things of a type go through a queue as they are, in each way in which a queue tells them.
func wantThrough[T any](t *testing.T, same func(a, b T) bool, all ...T) {
	t.Helper()
	for most := 1; most <= len(all)+1; most++ {
		b := newPair(t, most, same)
		for i, x := range slices.Concat(all, all, all) {
			if b.put(t, 3*i, x) == api.ErrQueueFull {
				b.take(t, b.p.there()[i%most].id)
				b.put(t, 3*i+1, x)
			}
			b.want(t)
		}
		c := b.copied()
		c.want(t)
		for i, x := range all {
			c.take(t, c.p.there()[0].id)
			c.put(t, 1000+i, x)
		}
		c.want(t)
		b.want(t)
		for _, r := range b.p.there() {
			b.take(t, r.id)
		}
		b.want(t)
	}
}

// P12.2 to P12.4: things of many types.
func TestTypes(t *testing.T) {
	wantThrough(t, same, 1, 0, -1, math.MaxInt, math.MinInt)
	wantThrough(t, same, "", "a", "a", "\x00\xff")
	wantThrough(t, same, true, false)
	wantThrough(t, same, struct{}{}, struct{}{})
	wantThrough(t, same, row[string]{1, "a"}, row[string]{-2, ""}, row[string]{})
	wantThrough(t, same, [3]int{1, 2, 3}, [3]int{}, [3]int{3, 2, 1})
	wantThrough(t, same, any(1), any("x"), any(nil), any(1.5))
	wantThrough(t, same, api.OK, api.ErrArg)
	wantThrough(t, same, make(chan int), nil, make(chan int, 1))
	bits := func(a, b float64) bool { return math.Float64bits(a) == math.Float64bits(b) }
	wantThrough(t, bits, 0, math.Copysign(0, -1), math.NaN(), -math.NaN(), math.Inf(1), 0.1)
	wantThrough(t, func(a, b func() int) bool { return (a == nil) == (b == nil) && (a == nil || a() == b()) }, func() int { return 1 }, nil, func() int { return 2 })
}

// P12.4: things are handed on as they are: a pointer points to what it did, a slice and a map are the ones that were put in, and what they hold is not changed.
func TestHandedOn(t *testing.T) {
	a, b := &row[string]{1, "a"}, &row[string]{2, "b"}
	wantThrough(t, same, a, b, nil, a)
	if *a != (row[string]{1, "a"}) || *b != (row[string]{2, "b"}) {
		t.Error("what is pointed to is changed:", *a, *b)
	}

	roomy := make([]int, 2, 8)
	copy(roomy[:8], []int{1, 2, 3, 4, 5, 6, 7, 8})
	place := func(l []int) *int {
		if cap(l) == 0 {
			return nil
		}
		return &l[:1][0]
	}
	sameSlice := func(a, b []int) bool {
		return (a == nil) == (b == nil) && place(a) == place(b) && len(a) == len(b) && cap(a) == cap(b)
	}
	wantThrough(t, sameSlice, roomy, nil, roomy[:0], roomy[1:2:2], []int{9})
	if !slices.Equal(roomy[:8], []int{1, 2, 3, 4, 5, 6, 7, 8}) {
		t.Error("a slice is changed:", roomy[:8])
	}

	m := map[string]int{"a": 1}
	sameMap := func(a, b map[string]int) bool { return fmt.Sprintf("%p", a) == fmt.Sprintf("%p", b) }
	wantThrough(t, sameMap, m, nil, map[string]int{})
	if len(m) != 1 || m["a"] != 1 {
		t.Error("a map is changed:", m)
	}
}

// P12.4: what is put in later into a slice that is a queue's thing is seen in the queue and in its copy: the thing is the slice, not what it holds.
func TestHandedOnShared(t *testing.T) {
	l := []int{1, 2}
	q := made[[]int](t, 2)
	if fault := q.Put(0, l); fault != api.OK {
		t.Fatal(fault)
	}
	c := q.Copy()
	l[1] = 7
	for _, q := range []*queue.Queue[[]int]{q, c} {
		if _, x, _ := q.At(0); !slices.Equal(x, []int{1, 7}) {
			t.Error("At:", x)
		}
		for _, x := range q.Each() {
			if !slices.Equal(x, []int{1, 7}) {
				t.Error("Each:", x)
			}
		}
		if x, _ := q.Take(0); !slices.Equal(x, []int{1, 7}) {
			t.Error("Take:", x)
		}
	}
}

// watched is a queue of pointers, and a weak pointer to each thing that was put in.
type watched struct {
	q     *queue.Queue[*[64]int]
	weak  map[int]weak.Pointer[[64]int]
	there map[int]bool
}

func (w watched) put(id int) {
	x := &[64]int{id}
	w.weak[id] = weak.Make(x)
	w.there[id] = w.q.Put(id, x) == api.OK
}

func (w watched) take(id int) {
	if x, fault := w.q.Take(id); fault != api.OK || x[0] != id {
		panic("take")
	}
	w.there[id] = false
}

// want holds that just those things are kept that are there.
func (w watched) want(t *testing.T) {
	t.Helper()
	runtime.GC()
	for id, there := range w.there {
		if kept := w.weak[id].Value() != nil; kept != there {
			complain(t, "the thing %d is there: %v; it is kept: %v", id, there, kept)
		}
	}
	runtime.KeepAlive(w.q)
}

// P0.4: what was taken out, or refused, is not kept: neither in the ring, nor in one that the queue has grown out of, nor by a sequence that was left.
func TestNotKept(t *testing.T) {
	for most := 1; most <= 9; most++ {
		for at := range most {
			w := watched{made[*[64]int](t, most), map[int]weak.Pointer[[64]int]{}, map[int]bool{}}
			for i := range most + 2 {
				w.put(i)
			}
			w.put(-1)
			seq := w.q.Each()
			for range seq {
				break
			}
			w.want(t)
			w.take(at)
			w.want(t)
			w.put(100)
			for i := range most {
				if i != at {
					w.take(i)
				}
			}
			w.want(t)
			w.take(100)
			w.want(t)
			runtime.KeepAlive(seq)
		}
	}
}

// P12.4: queues beside one another, and questions of one queue beside one another, answer what each would answer alone.
func TestBeside(t *testing.T) {
	shared := wrapped(t, 12, 5)
	seq := shared.Each()
	var group sync.WaitGroup
	for by := range 8 {
		group.Go(func() {
			for range 20 {
				wantIDs(t, shared, 0, 111, count(100, 12)...)
				wantSeq(t, seq, same, namedRows(count(100, 12)...))
				own := shared.Copy()
				wantTake(t, own, 100+by)
				wantPut(t, own, 200+by, api.OK)
				if at, is := own.Find(200 + by); at != 11 || !is {
					complain(t, "Find(%d): %d, %v", 200+by, at, is)
				}
			}
		})
	}
	group.Wait()
	wantIDs(t, shared, 0, 111, count(100, 12)...)
}
