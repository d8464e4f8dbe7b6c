package queue_test

import (
	"fmt"
	"slices"
	"testing"

	"chordmail/api"
	"chordmail/queue"
)

// paper is a plain reference: it writes down all that is ever put in, line by line, and strikes out what is taken. Each question is answered by going over all lines.
type paper[T any] struct {
	most   int
	lines  []row[T]
	struck []bool
}

func (p *paper[T]) there() []row[T] {
	var l []row[T]
	for i, r := range p.lines {
		if !p.struck[i] {
			l = append(l, r)
		}
	}
	return l
}

func (p *paper[T]) last() int {
	last := -1
	for _, r := range p.lines {
		last = max(last, r.id)
	}
	return last
}

func (p *paper[T]) room() int { return p.most - len(p.there()) }

func (p *paper[T]) put(id int, x T) api.Errno {
	if id < 0 || slices.ContainsFunc(p.lines, func(r row[T]) bool { return r.id >= id }) {
		return api.ErrArg
	}
	if len(p.there()) >= p.most {
		return api.ErrQueueFull
	}
	p.lines = append(p.lines, row[T]{id, x})
	p.struck = append(p.struck, false)
	return api.OK
}

func (p *paper[T]) take(id int) (x T, fault api.Errno) {
	for i, r := range p.lines {
		if r.id == id && !p.struck[i] {
			p.struck[i] = true
			return r.x, api.OK
		}
	}
	return x, api.ErrQueueNone
}

func (p *paper[T]) copied() *paper[T] {
	return &paper[T]{p.most, slices.Clone(p.lines), slices.Clone(p.struck)}
}

// pair is a queue and the reference of it: each call goes to both.
type pair[T any] struct {
	q    *queue.Queue[T]
	p    *paper[T]
	same func(a, b T) bool
}

func newPair[T any](t *testing.T, most int, same func(a, b T) bool) pair[T] {
	t.Helper()
	return pair[T]{made[T](t, most), &paper[T]{most: most}, same}
}

func (b pair[T]) copied() pair[T] { return pair[T]{b.q.Copy(), b.p.copied(), b.same} }

func (b pair[T]) put(t *testing.T, id int, x T) api.Errno {
	t.Helper()
	fault, wanted := b.q.Put(id, x), b.p.put(id, x)
	if fault != wanted {
		complain(t, "Put(%d): %v; want %v", id, fault, wanted)
	}
	return wanted
}

func (b pair[T]) take(t *testing.T, id int) api.Errno {
	t.Helper()
	x, fault := b.q.Take(id)
	y, wanted := b.p.take(id)
	if fault != wanted || !b.same(x, y) {
		complain(t, "Take(%d): %v, %v; want %v, %v", id, x, fault, y, wanted)
	}
	return wanted
}

// want holds each question's answer against the reference, and what follows of them.
func (b pair[T]) want(t *testing.T) {
	t.Helper()
	wantRows(t, b.q, b.same, b.p.room(), b.p.last(), b.p.there())
	wantInOrder(t, b.q, b.p.most)
}

// wantInOrder holds that numbers rise, none above the last one, and that Len and Room together are what New was given.
func wantInOrder[T any](t *testing.T, q *queue.Queue[T], most int) {
	t.Helper()
	if q.Len() < 0 || q.Room() < 0 || q.Len()+q.Room() != most {
		complain(t, "Len %d and Room %d are not %d together", q.Len(), q.Room(), most)
	}
	ahead := -1
	for i := range q.Len() {
		id, _, is := q.At(i)
		if !is || id <= ahead || id > q.Last() {
			complain(t, "At(%d): %d, %v behind %d; the last number is %d", i, id, is, ahead, q.Last())
		}
		ahead = id
	}
}

// The reference itself, against answers written by hand: where it went wrong, what is held against it would too.
func TestReference(t *testing.T) {
	p := &paper[string]{most: 2}
	said := ""
	for _, id := range []int{-1, 3, 3, 5, 7, 4} {
		said += fmt.Sprint(int(p.put(id, named(id))), " ")
	}
	x, fault := p.take(3)
	y, twice := p.take(3)
	said += fmt.Sprintf("%q %d %q %d ", x, fault, y, twice)
	said += fmt.Sprint(int(p.put(4, "")), int(p.put(6, "z")), p.there(), p.last(), p.room())
	if wanted := `2 0 2 0 120 2 "t3" 0 "" 121 2 0 [{5 t5} {6 z}] 6 0`; said != wanted {
		t.Errorf("%s; want %s", said, wanted)
	}
}
