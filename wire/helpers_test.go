package wire_test

import (
	"bytes"
	"encoding/hex"
	"fmt"
	"iter"
	"math"
	"slices"
	"strings"
	"testing"

	"chordmail/api"
	"chordmail/value"
	"chordmail/wire"
)

// complain tells what is wrong, shortened: some forms are long.
func complain(t *testing.T, format string, of ...any) {
	t.Helper()
	said := strings.ToValidUTF8(fmt.Sprintf(format, of...), "?")
	if len(said) > 600 {
		said = said[:600] + ".."
	}
	t.Error(said)
}

var (
	nan   = math.NaN()
	inf   = math.Inf(1)
	minus = math.Copysign(0, -1)
)

const (
	least    = math.SmallestNonzeroFloat64
	greatest = math.MaxFloat64
	normal   = 0x1p-1022 // the least of those that are
)

func whole(n int64) api.Value { return api.Value{Kind: 1, Int: n} }

func scaled(f float64) api.Value { return api.Value{Kind: 2, Real: f} }

func pair(re, im float64) api.Value { return api.Value{Kind: 3, Comp: complex(re, im)} }

func said(s string) api.Value { return api.Value{Kind: 4, Text: s} }

func truth(n int64) api.Value { return api.Value{Kind: 5, Int: n} }

// sized is a text of so many bytes.
func sized(many int) api.Value { return said(strings.Repeat("t", many)) }

func list(l ...api.Value) []api.Value { return l }

func mail(id int, tag string, l ...api.Value) api.Message {
	return api.Message{ID: id, Tag: tag, Payload: l}
}

// dressed is v with something in each field that its kind does not name.
func dressed(v api.Value) api.Value {
	d := api.Value{Kind: v.Kind, Int: 7, Real: 2.5, Comp: complex(nan, 3), Text: strings.Repeat("d", 300)}
	switch v.Kind {
	case 1, 5:
		d.Int = v.Int
	case 2:
		d.Real = v.Real
	case 3:
		d.Comp = v.Comp
	case 4:
		d.Text = v.Text
	}
	return d
}

func dressedPayload(l []api.Value) []api.Value {
	var d []api.Value
	for _, v := range l {
		d = append(d, dressed(v))
	}
	return d
}

func dressedMessage(m api.Message) api.Message {
	return mail(m.ID, m.Tag, dressedPayload(m.Payload)...)
}

// exactly tells whether two values are the same in each field, reals to the bit.
func exactly(a, b api.Value) bool {
	bits := math.Float64bits
	return a.Kind == b.Kind && a.Int == b.Int && a.Text == b.Text && bits(a.Real) == bits(b.Real) &&
		bits(real(a.Comp)) == bits(real(b.Comp)) && bits(imag(a.Comp)) == bits(imag(b.Comp))
}

func exactlyPayload(a, b []api.Value) bool { return slices.EqualFunc(a, b, exactly) }

func exactlyMessage(a, b api.Message) bool {
	return a.ID == b.ID && a.Tag == b.Tag && exactlyPayload(a.Payload, b.Payload)
}

func exactlyRows(a, b []row) bool {
	return slices.EqualFunc(a, b, func(x, y row) bool { return x.at == y.at && exactlyMessage(x.m, y.m) })
}

// samePayload asks layer 2.
func samePayload(a, b []api.Value) bool { return slices.EqualFunc(a, b, value.Same) }

func sameMessage(a, b api.Message) bool {
	return a.ID == b.ID && a.Tag == b.Tag && samePayload(a.Payload, b.Payload)
}

// face is what there is of one sort of thing: the two calls, and what the reference has in their places.
type face[T any] struct {
	name      string
	write     func(T) ([]byte, api.Errno)
	read      func([]byte) (T, int, api.Errno)
	refWrite  func(T) (string, bool)
	refRead   func(string) (T, int, bool)
	plain     func(T) T
	dressed   func(T) T
	exactly   func(a, b T) bool
	same      func(a, b T) bool
	zeroNames string
}

var (
	values   = face[api.Value]{"Value", wire.Value, wire.ReadValue, refValue, refReadValue, refPlain, dressed, exactly, value.Same, "the zero Value"}
	payloads = face[[]api.Value]{"Payload", wire.Payload, wire.ReadPayload, refPayload, refReadPayload, refPlainPayload, dressedPayload, exactlyPayload, samePayload, "none"}
	messages = face[api.Message]{"Message", wire.Message, wire.ReadMessage, refMessage, refReadMessage, refPlainMessage, dressedMessage, exactlyMessage, sameMessage, "the zero Message"}
)

// wantForm holds that x has this form, dressed too, and that the form is read as x, plain.
func (f face[T]) wantForm(t *testing.T, x T, form []byte) {
	t.Helper()
	for _, x := range []T{x, f.plain(x), f.dressed(x)} {
		if b, fault := f.write(x); fault != api.OK || !bytes.Equal(b, form) {
			complain(t, "%s of %.300q: %.150x, %v; want %.150x", f.name, fmt.Sprint(x), b, fault, form)
		}
	}
	if digits, ok := f.refWrite(x); !ok || digits != hex.EncodeToString(form) {
		complain(t, "the reference of %.300q: %s, %v; want %.150x", fmt.Sprint(x), digits, ok, form)
	}
	f.wantRead(t, form, x, len(form))
}

// wantRefused holds that x has no form.
func (f face[T]) wantRefused(t *testing.T, x T) {
	t.Helper()
	if b, fault := f.write(x); fault != api.ErrArg || len(b) != 0 {
		complain(t, "%s of %.300q: %.150x, %v; want ErrArg", f.name, fmt.Sprint(x), b, fault)
	}
	if digits, ok := f.refWrite(x); ok {
		complain(t, "the reference of %.300q: %s; want none", fmt.Sprint(x), digits)
	}
}

// wantRead holds that b begins with the form of x, which has so many bytes.
func (f face[T]) wantRead(t *testing.T, b []byte, x T, size int) {
	t.Helper()
	if got, n, fault := f.read(b); fault != api.OK || n != size || !f.exactly(got, f.plain(x)) {
		complain(t, "Read%s of %.150x: %.300q, %d, %v; want %.300q, %d", f.name, b, fmt.Sprint(got), n, fault, fmt.Sprint(x), size)
	}
	if got, n, ok := f.refRead(hex.EncodeToString(b)); !ok || n != 2*size || !f.exactly(got, f.plain(x)) {
		complain(t, "the reference's Read%s of %.150x: %.300q, %d, %v; want %.300q, %d", f.name, b, fmt.Sprint(got), n/2, ok, fmt.Sprint(x), size)
	}
}

// wantUnread holds that b begins with no form.
func (f face[T]) wantUnread(t *testing.T, b []byte) {
	t.Helper()
	f.wantNothing(t, b)
	if got, _, ok := f.refRead(hex.EncodeToString(b)); ok {
		complain(t, "the reference's Read%s of %.150x: %.300q; want none", f.name, b, fmt.Sprint(got))
	}
}

// wantNothing holds that ErrWire is told of b, and nothing else.
func (f face[T]) wantNothing(t *testing.T, b []byte) {
	t.Helper()
	var zero T
	if got, n, fault := f.read(b); fault != api.ErrWire || n != 0 || !f.exactly(got, zero) {
		complain(t, "Read%s of %.150x: %.300q, %d, %v; want %s, 0, ErrWire", f.name, b, fmt.Sprint(got), n, fault, f.zeroNames)
	}
}

// wantWritten holds what is told of x against the reference; it answers the form, none of what has none.
func (f face[T]) wantWritten(t *testing.T, x T) []byte {
	t.Helper()
	digits, ok := f.refWrite(x)
	if !ok {
		f.wantRefused(t, x)
		return nil
	}
	form := bytesOf(digits)
	f.wantForm(t, x, form)
	return form
}

// wantReference holds what is read of b against the reference; it tells whether b begins with a form.
func (f face[T]) wantReference(t *testing.T, b []byte) bool {
	t.Helper()
	x, n, ok := f.refRead(hex.EncodeToString(b))
	if !ok {
		f.wantNothing(t, b)
		return false
	}
	f.wantForm(t, x, b[:n/2])
	f.wantRead(t, b, x, n/2)
	return true
}

// formOf is the form of what must have one.
func (f face[T]) formOf(t *testing.T, x T) []byte {
	t.Helper()
	b, fault := f.write(x)
	if fault != api.OK {
		t.Fatalf("%s of %.300q: %v", f.name, fmt.Sprint(x), fault)
	}
	return b
}

// rowsOf are all rows that Rows tells of b.
func rowsOf(b []byte) []row { return told(wire.Rows(b), len(b)) }

// told are the rows that a sequence tells, and no more than one above most: more there can't be.
func told(seq iter.Seq2[api.Message, int], most int) []row {
	var l []row
	for m, at := range seq {
		if l = append(l, row{m, at}); len(l) > most {
			break
		}
	}
	return l
}

func wantRows(t *testing.T, b []byte, wanted ...row) {
	t.Helper()
	if got := rowsOf(b); !exactlyRows(got, wanted) {
		complain(t, "Rows of %.150x: %v; want %v", b, got, wanted)
	}
	if got := refRows(b); !exactlyRows(got, wanted) {
		complain(t, "the reference's Rows of %.150x: %v; want %v", b, got, wanted)
	}
}
