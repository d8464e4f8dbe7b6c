package bags_test

import (
	"fmt"
	"math"
	"math/rand"
	"strings"
	"testing"

	"chordmail/api"
)

// P14.5: every row of calls up to a length, of mailboxes of two tags: of an empty one, and of one in which a queue is almost full.
func TestAllRows(t *testing.T) {
	rowsFrom(t, func() pair { return newPair(t, "a", "b") }, nil, 5)
	rowsFrom(t, func() pair {
		d := newPair(t, "a", "b")
		for i := range 11 {
			d.put(t, mail(i, "b"))
		}
		return d
	}, nil, 4)
}

// rowsFrom does each call behind a row of calls, on mailboxes that are made anew by doing the row again, so that Copy has no part in it.
func rowsFrom(t *testing.T, begin func() pair, done []int, left int) {
	t.Helper()
	d := begin()
	for _, call := range done {
		d = doCall(t, d, call)
	}
	d.want(t)
	if left == 0 || t.Failed() {
		return
	}
	for call := range 8 {
		rowsFrom(t, begin, append(done[:len(done):len(done)], call), left-1)
	}
}

func doCall(t *testing.T, d pair, call int) pair {
	t.Helper()
	last, there := d.p.last(), idsOf(d.p.there())
	switch call {
	case 0:
		d.put(t, mail(last+1, "a"))
	case 1:
		d.put(t, mail(last+3, "b"))
	case 2:
		d.put(t, mail(last, "a"))
		d.put(t, mail(last+2, noTag))
	case 3:
		d.take(t, there[:min(1, len(there))]...)
	case 4:
		d.take(t, there[max(0, len(there)-1):]...)
	case 5:
		if len(there) > 2 {
			d.take(t, there[len(there)-1], there[1])
		}
	case 6:
		d.take(t, append(there, last+1)...)
		d.take(t, append(there, -1, -1)...)
	case 7:
		c := d.copied()
		d.take(t, there...)
		d.put(t, mail(last+1, "b"))
		d.want(t)
		return c
	}
	return d
}

// tally is how often something came about.
type tally map[string]int

func (c tally) want(t *testing.T, least int, names ...string) {
	t.Helper()
	for _, name := range names {
		if c[name] < least {
			t.Errorf("%s: just %d times", name, c[name])
		}
	}
}

// drawnValue draws a value: also what may not be in a payload elsewhere, which is none of a mailbox's business.
func drawnValue(r *rand.Rand) api.Value {
	reals := []float64{0, math.Copysign(0, -1), 1.5, -2.25e300, math.SmallestNonzeroFloat64, math.Inf(1), math.Inf(-1), math.NaN()}
	real := func() float64 { return reals[r.Intn(len(reals))] }
	switch r.Intn(7) {
	case 0:
		return whole(int64(r.Uint64() >> r.Intn(64)))
	case 1:
		return api.Value{Kind: api.Real, Real: real()}
	case 2:
		return api.Value{Kind: api.Comp, Comp: complex(real(), real())}
	case 3:
		text := make([]byte, r.Intn(300))
		r.Read(text)
		return said(string(text))
	case 4:
		return api.Value{Kind: api.Bool, Int: int64(r.Intn(3))}
	case 5:
		return api.Value{Kind: []int{0, 6, -1, 99, math.MinInt}[r.Intn(5)]}
	}
	return said(strings.Repeat("x", r.Intn(3)))
}

func drawnMail(r *rand.Rand, id int, tag string) api.Message {
	m := api.Message{ID: id, Tag: tag}
	for range r.Intn(8) {
		m.Payload = append(m.Payload, drawnValue(r))
	}
	return m
}

// drawnTag draws one of the tags, often one of the first two, now and then a name that is none.
func drawnTag(r *rand.Rand, tags []string) string {
	if len(tags) == 0 || r.Intn(20) == 0 {
		return noTag
	}
	return tags[min(r.Intn(len(tags)), r.Intn(len(tags)+2))]
}

// drawnIDs draws some of the messages that are there, in any order; now and then with one twice, or with IDs of none among them.
func drawnIDs(r *rand.Rand, there []int, last int) []int {
	r.Shuffle(len(there), func(i, k int) { there[i], there[k] = there[k], there[i] })
	ids := there[:min(len(there), r.Intn(5))]
	if r.Intn(20) == 0 {
		ids = there
	}
	for len(ids) > 0 && r.Intn(8) == 0 {
		ids = append(ids[:len(ids):len(ids)], ids[r.Intn(len(ids))])
	}
	if r.Intn(6) == 0 {
		ids = append(ids[:len(ids):len(ids)], r.Intn(last+4)-1)
	}
	r.Shuffle(len(ids), func(i, k int) { ids[i], ids[k] = ids[k], ids[i] })
	return ids
}

// drawnCall draws a call and does it. Now and then more is taken or put in than the other, so that mailboxes run full and empty.
func drawnCall(t *testing.T, r *rand.Rand, d pair, much int, c tally) {
	t.Helper()
	last := d.p.last()
	if r.Intn(20) >= much {
		c[fmt.Sprint("take ", int(d.take(t, drawnIDs(r, idsOf(d.p.there()), last)...)))]++
		return
	}
	id := last + 1
	switch r.Intn(8) {
	case 0:
		id += r.Intn(9)
	case 1:
		id = last - r.Intn(last+3)
	}
	c[fmt.Sprint("put ", int(d.put(t, drawnMail(r, id, drawnTag(r, d.p.tags)))))]++
}

// P14.5: long rows of drawn calls, of few tags and of many.
func TestDrawn(t *testing.T) {
	r := rand.New(rand.NewSource(14))
	c := tally{}
	for _, many := range []int{0, 1, 1, 2, 2, 3, 5, 8, 13, 40, 63, 64} {
		d := newPair(t, manyTags(many)...)
		for i := range 400 {
			drawnCall(t, r, d, []int{19, 13, 4}[i/70%3], c)
			switch there := d.p.there(); {
			case len(there) == 0:
				c["empty"]++
			case len(there) == 12*many:
				c["full"]++
			}
			if many < 10 || i%8 == 0 {
				d.want(t)
			}
		}
		d.want(t)
		if t.Failed() {
			return
		}
	}
	c.want(t, 100, "put 0", "put 2", "put 140", "put 141", "take 0", "take 2", "take 121", "empty", "full")
}

// P14.4: mailboxes that go on from one another by Copy, each with calls of its own.
func TestDrawnCopies(t *testing.T) {
	r := rand.New(rand.NewSource(15))
	c := tally{}
	for many := 1; many <= 10; many++ {
		all := []pair{newPair(t, manyTags(many)...)}
		for i := range 250 {
			if i%25 == 24 {
				all = append(all, all[r.Intn(len(all))].copied())
			}
			drawnCall(t, r, all[r.Intn(len(all))], 14, c)
			if i%10 == 0 {
				for _, d := range all {
					d.want(t)
				}
			}
		}
		if t.Failed() {
			return
		}
	}
	c.want(t, 50, "put 0", "put 2", "put 140", "put 141", "take 0", "take 2", "take 121")
}

// P14.5: IDs from all over the ints, up to the greatest one.
func TestDrawnNumbers(t *testing.T) {
	r := rand.New(rand.NewSource(16))
	for range 300 {
		d := newPair(t, manyTags(1+r.Intn(4))...)
		for range 40 {
			id := int(r.Uint64() >> r.Intn(64))
			if r.Intn(4) == 0 {
				id = d.p.last() + r.Intn(3) - 1
			}
			d.put(t, drawnMail(r, id, drawnTag(r, d.p.tags)))
			if there := idsOf(d.p.there()); len(there) > 0 && r.Intn(2) == 0 {
				d.take(t, there[r.Intn(len(there))])
			}
			d.take(t, id+1)
		}
		d.want(t)
		d.put(t, mail(math.MaxInt, d.p.tags[0]))
		d.put(t, mail(math.MinInt, d.p.tags[0]))
		d.want(t)
		if t.Failed() {
			return
		}
	}
}

// P14.1: drawn names, with and without two that are alike.
func TestDrawnNames(t *testing.T) {
	r := rand.New(rand.NewSource(17))
	c := tally{}
	for range 3000 {
		seen := map[string]bool{}
		var tags []string
		letters := 1 + r.Intn(6)
		for range r.Intn(70) {
			name := make([]byte, r.Intn(letters+1))
			for i := range name {
				name[i] = "abAB\x00\xff"[r.Intn(letters)]
			}
			if seen[string(name)] && r.Intn(60) > 0 {
				continue
			}
			seen[string(name)] = true
			tags = append(tags, string(name))
		}
		if len(tags) > 64 || len(seen) < len(tags) {
			c["refused"]++
			wantNoBox(t, tags...)
			continue
		}
		c["made"]++
		wantBox(t, made(t, tags...), tags, -1)
	}
	c.want(t, 300, "refused", "made")
}
