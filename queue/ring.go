package queue

import "iter"

// item is a thing and its number.
type item[T any] struct {
	id int
	x  T
}

// ring holds items one behind the other in a list that goes round: behind its end it goes on at its beginning.
type ring[T any] struct {
	places []item[T] // those without an item are zero, so that no thing is kept that was taken out
	first  int       // where in places the first item stands
	many   int       // how many items there are
}

// at answers where the item stands that has i others ahead of it.
func (r *ring[T]) at(i int) *item[T] { return &r.places[(r.first+i)%len(r.places)] }

// add puts an item behind all others. Places are made as they are needed, at most so many: a queue that may hold many mostly holds few.
func (r *ring[T]) add(it item[T], most int) {
	if r.many == len(r.places) {
		*r = r.laid(min(2*r.many+1, most))
	}
	*r.at(r.many) = it
	r.many++
}

// drop takes out the item that has i others ahead of it. The gap is closed from the side where fewer stand.
func (r *ring[T]) drop(i int) {
	if i < r.many/2 {
		for ; i > 0; i-- {
			*r.at(i) = *r.at(i - 1)
		}
		*r.at(0) = item[T]{}
		r.first = (r.first + 1) % len(r.places)
	} else {
		for ; i < r.many-1; i++ {
			*r.at(i) = *r.at(i + 1)
		}
		*r.at(i) = item[T]{}
	}
	r.many--
}

// each goes over the items as they stand.
func (r *ring[T]) each() iter.Seq[item[T]] {
	return func(yield func(item[T]) bool) {
		for i := range r.many {
			if !yield(*r.at(i)) {
				return
			}
		}
	}
}

// laid answers a ring of so many places, with the same items from its beginning on.
func (r *ring[T]) laid(places int) ring[T] {
	l := make([]item[T], 0, places)
	for it := range r.each() {
		l = append(l, it)
	}
	return ring[T]{places: l[:places], many: r.many}
}
