package wire_test

import (
	"encoding/hex"
	"math"
	"math/rand"
	"slices"
	"testing"

	"chordmail/api"
)

// draw draws things that may be, or nearly so; the same ones in every run.
type draw struct {
	lot           *rand.Rand
	reals         []float64
	values, never []api.Value
}

func newDraw(seed int64) draw {
	return draw{rand.New(rand.NewSource(seed)), append(edgeReals(), otherNaNs()...), edgeValues(), never()}
}

// one is one of a list.
func one[T any](d draw, l []T) T { return l[d.below(len(l))] }

func (d draw) below(n int) int { return d.lot.Intn(n) }

// many are so many of what is drawn.
func many[T any](drawn func() T, n int) []T {
	var l []T
	for range n {
		l = append(l, drawn())
	}
	return l
}

func (d draw) bytes(most int) []byte {
	b := make([]byte, d.below(most+1))
	for i := range b {
		b[i] = byte(d.below(256))
		if d.below(2) == 0 {
			b[i] = byte(d.below(7))
		}
	}
	return b
}

func (d draw) real() float64 {
	switch d.below(4) {
	case 0:
		return math.Float64frombits(d.lot.Uint64())
	case 1:
		return math.Ldexp(float64(d.below(200)-100), d.below(2200)-1100)
	case 2:
		return one(d, d.reals)
	}
	return float64(d.below(9) - 4)
}

// value may be, and is no bool.
func (d draw) value() api.Value {
	v := whole(int64(d.lot.Uint64()) >> d.below(64))
	switch d.below(5) {
	case 0:
		v = scaled(d.real())
	case 1:
		v = pair(d.real(), d.real())
	case 2:
		v = said(string(d.bytes(256 >> d.below(9))))
	case 3:
		v = one(d, d.values)
	}
	if d.below(3) == 0 {
		v = dressed(v)
	}
	return v
}

// payload may be.
func (d draw) payload() []api.Value {
	for {
		l := many(d.value, d.below(7))
		if _, ok := refPayload(l); ok {
			return l
		}
	}
}

// message may be.
func (d draw) message() api.Message {
	tag := string(append(d.bytes(31), 'a'))
	return mail(d.below(1<<20)>>d.below(21), tag, d.payload()...)
}

// wild is a value that may be or not.
func (d draw) wild() api.Value {
	if d.below(12) == 0 {
		return one(d, d.never)
	}
	if d.below(4) == 0 {
		return sized(200 + d.below(60))
	}
	return d.value()
}

func (d draw) wildPayload() []api.Value { return many(d.wild, d.below(8)) }

func (d draw) wildMessage() api.Message {
	id := d.below(1<<20+8) - 4
	if d.below(8) == 0 {
		id = int(d.lot.Uint64())
	}
	return mail(id, string(d.bytes(36)), d.wildPayload()...)
}

// hurt are bytes with one of them turned, less or more, or with all behind some place less.
func (d draw) hurt(b []byte) []byte {
	b = slices.Clone(b)
	at := d.below(len(b))
	if d.below(2) == 0 {
		at = d.below(min(len(b), 12))
	}
	switch d.below(5) {
	case 0:
		b[at] = byte(d.below(256))
	case 1:
		b[at] ^= 1 << d.below(8)
	case 2:
		b = slices.Delete(b, at, at+1)
	case 3:
		b = slices.Insert(b, at, byte(d.below(8)))
	case 4:
		b = b[:at]
	}
	return b
}

// wantDrawn holds drawn things, and their forms when they were hurt, against the reference; both what may be and what may not must come about often.
func wantDrawn[T any](t *testing.T, d draw, f face[T], good, wild func() T) {
	t.Helper()
	written, read, unread := 0, 0, 0
	for range 6000 {
		if form := f.wantWritten(t, wild()); form != nil {
			written++
		}
		x := good()
		form := slices.Concat(f.wantWritten(t, x), d.bytes(8))
		for range 4 {
			if form = d.hurt(form); f.wantReference(t, form) {
				read++
			} else {
				unread++
			}
			if len(form) == 0 {
				break
			}
		}
	}
	if written < 300 || written > 5900 || read < 1000 || unread < 1000 {
		t.Errorf("%s: %d written; %d read, %d not", f.name, written, read, unread)
	}
}

// P11.1, P11.2, P11.4: values, payloads and messages, and bytes that are forms or nearly so.
func TestDrawn(t *testing.T) {
	d := newDraw(4)
	wantDrawn(t, d, values, d.value, d.wild)
	wantDrawn(t, d, payloads, d.payload, d.wildPayload)
	wantDrawn(t, d, messages, d.message, d.wildMessage)
}

// P11.2: bytes that are drawn, not made out of forms.
func TestDrawnBytes(t *testing.T) {
	d := newDraw(5)
	for range 30000 {
		b := d.bytes(60)
		values.wantReference(t, b)
		payloads.wantReference(t, b)
		messages.wantReference(t, b)
	}
}

// P11.3: rows whose bytes were hurt.
func TestDrawnRows(t *testing.T) {
	d := newDraw(6)
	all, part := 0, 0
	for range 2000 {
		b, rows := rowOf(t, many(d.message, 1+d.below(6))...)
		hurt := d.hurt(b)
		got, wanted := rowsOf(hurt), refRows(hurt)
		if !exactlyRows(got, wanted) {
			complain(t, "Rows of %s: %v; want %v", hex.EncodeToString(hurt), got, wanted)
		}
		if len(wanted) >= len(rows) {
			all++
		} else {
			part++
		}
	}
	if all < 200 || part < 200 {
		t.Errorf("%d rows told whole, %d in part", all, part)
	}
}
