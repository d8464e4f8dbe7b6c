package wire_test

import (
	"bytes"
	"encoding/hex"
	"fmt"
	"math"
	"slices"
	"sync"
	"testing"

	"chordmail/api"
	"chordmail/wire"
)

// there are the forms of things, there and back: read as the same ones, plain, whatever stands behind.
func there[T any](t *testing.T, f face[T], all []T) [][]byte {
	t.Helper()
	var forms [][]byte
	for _, x := range all {
		form := f.formOf(t, x)
		forms = append(forms, form)
		for _, behind := range append(behinds(), nil, form) {
			back, n, fault := f.read(slices.Concat(form, behind))
			if fault != api.OK || n != len(form) || !f.same(back, x) || !f.exactly(back, f.plain(x)) {
				complain(t, "%.300q has the form %.150x, which is read as %.300q, %d, %v", fmt.Sprint(x), form, fmt.Sprint(back), n, fault)
			}
			if again := f.formOf(t, back); !bytes.Equal(again, form) {
				complain(t, "%.150x is read as %.300q, which has the form %.150x", form, fmt.Sprint(back), again)
			}
		}
	}
	return forms
}

// wantApart holds that no form begins another one.
func wantApart(t *testing.T, name string, forms [][]byte) {
	t.Helper()
	slices.SortFunc(forms, bytes.Compare)
	forms = slices.CompactFunc(forms, bytes.Equal)
	// In order, what begins another one begins the next one too.
	for i := 1; i < len(forms); i++ {
		if bytes.HasPrefix(forms[i], forms[i-1]) {
			complain(t, "a %s's form %.150x begins %.150x", name, forms[i-1], forms[i])
		}
	}
	if len(forms) < 100 {
		t.Errorf("just %d forms", len(forms))
	}
}

// P11.4, P11.5: edges and drawn ones, there and back; none begins another one.
func TestThereAndBack(t *testing.T) {
	d := newDraw(1)
	wantApart(t, "value", there(t, values, append(edgeValues(), many(d.value, 2000)...)))
	wantApart(t, "payload", there(t, payloads, append(edgePayloads(), many(d.payload, 1000)...)))
	wantApart(t, "message", there(t, messages, append(edgeMessages(), many(d.message, 1000)...)))
}

// P11.4: two things have one form just if they are the same.
func TestOneForm(t *testing.T) {
	var l []api.Value
	for _, v := range edgeValues() {
		l = append(l, v, dressed(v))
	}
	for _, f := range otherNaNs() {
		l = append(l, scaled(f), pair(f, 0), pair(1.5, f), pair(f, nan))
	}
	for _, a := range l {
		form := values.formOf(t, a)
		for _, b := range l {
			if same, alike := values.same(a, b), bytes.Equal(form, values.formOf(t, b)); same != alike {
				complain(t, "%v and %v: the same: %v; of one form: %v", a, b, same, alike)
			}
		}
	}
}

// P11.4: bytes that are read are the form of what they are read as: each form with each of its bytes, or one more or less of them, turned to others.
func TestBackAndThere(t *testing.T) {
	read := 0
	for _, m := range append(someMessages()[:4], mail(258, "put", scaled(nan), pair(nan, 1)), mail(1, "a", pair(1, nan), said(""))) {
		form := messages.formOf(t, m)
		for i := range form {
			for c := range 256 {
				turned := slices.Clone(form)
				turned[i] = byte(c)
				if got, n, fault := wire.ReadMessage(turned); fault == api.OK {
					read++
					if again := messages.formOf(t, got); !bytes.Equal(again, turned[:n]) {
						complain(t, "%.150x is read as %.300q, which has the form %.150x", turned, fmt.Sprint(got), again)
					}
				}
			}
			messages.wantReference(t, slices.Delete(slices.Clone(form), i, i+1))
			messages.wantReference(t, slices.Insert(slices.Clone(form), i, 0))
			messages.wantReference(t, slices.Insert(slices.Clone(form), i, 1))
		}
	}
	if read < 5000 {
		t.Errorf("just %d were read", read)
	}
}

// P11.5: a row of forms is told as it was, and what stands behind it changes only what is told behind it.
func TestOneBehindTheOther(t *testing.T) {
	d := newDraw(2)
	for range 150 {
		b, rows := rowOf(t, many(d.message, d.below(12))...)
		wantRows(t, b, rows...)
		more, moreRows := rowOf(t, many(d.message, d.below(4))...)
		for i := range moreRows {
			moreRows[i].at += len(b)
		}
		wantRows(t, slices.Concat(b, more), slices.Concat(rows, moreRows)...)
		for _, behind := range append(behinds(), d.bytes(30)) {
			got := rowsOf(slices.Concat(b, behind))
			if len(got) < len(rows) || !exactlyRows(got[:len(rows)], rows) {
				complain(t, "Rows of %.150x and %.150x behind it: %v; want %v", b, behind, got, rows)
			}
		}
		if len(rows) > 0 {
			last := slices.Clone(b)
			last[len(b)-1] ^= 0xff // the last message alone has this byte
			if got := rowsOf(last); len(got) < len(rows)-1 || !exactlyRows(got[:len(rows)-1], rows[:len(rows)-1]) {
				complain(t, "Rows of %.150x: %v; want %v ahead of the last one", last, got, rows)
			}
		}
	}
}

// overwrite writes over all of a list, the room behind it, too.
func overwrite[T any](l []T, with T) {
	l = l[:cap(l)]
	for i := range l {
		l[i] = with
	}
}

// roomy is a list with room behind it, in which something else stands.
func roomy[T any](l []T, other ...T) []T {
	made := append(append(make([]T, 0, len(l)+len(other)), l...), other...)
	return made[:len(l)]
}

// P11.6: a payload that is handed in stays as it was, with the room behind it, which is not looked at; written over behind the call it changes nothing that was answered.
func TestPayloadHandedIn(t *testing.T) {
	for _, l := range slices.Concat(edgePayloads(), neverPayloads()[:16], [][]api.Value{dressedPayload(edgePayloads()[5])}) {
		digits, ok := refPayload(l)
		mailed, _ := refMessage(mail(1, "a", l...))
		handed := roomy(l, truth(1), sized(256), whole(9))
		all := handed[:cap(handed)]
		kept := slices.Clone(all)
		b, fault := wire.Payload(handed)
		c, _ := wire.Message(api.Message{ID: 1, Tag: "a", Payload: handed})
		if !exactlyPayload(all, kept) {
			complain(t, "what was handed in is changed: %v; want %v", all, kept)
		}
		overwrite(handed, truth(0))
		if (fault == api.OK) != ok || ok && (hex.EncodeToString(b) != digits || hex.EncodeToString(c) != mailed) {
			complain(t, "%.150x and %.150x, %v, written over; want %s and %s", b, c, fault, digits, mailed)
		}
		if len(l) > 0 {
			payloads.wantRefused(t, handed)
		}
	}
}

// wantKept holds that bytes stay as they were while they are read, with the room behind them, which is not looked at; and that what was read stays, if they are written over.
func wantKept[T any](t *testing.T, f face[T], b []byte) {
	t.Helper()
	wanted, n, ok := f.refRead(hex.EncodeToString(b))
	handed := roomy(b, bytesOf("00000001 01 61 00 01 0000000000000001 04 0000 00 00 00 00 00 00 00")...)
	all := handed[:cap(handed)]
	kept := slices.Clone(all)
	got, size, fault := f.read(handed)
	if !bytes.Equal(all, kept) {
		complain(t, "what was handed in is changed: %.150x; want %.150x", all, kept)
	}
	for _, c := range []byte{0, 4, 0xff} {
		overwrite(handed, c)
		if (fault == api.OK) != ok || ok && (2*size != n || !f.exactly(got, wanted)) {
			complain(t, "Read%s of %.150x, written over: %.300q, %d, %v; want %.300q", f.name, b, fmt.Sprint(got), size, fault, fmt.Sprint(wanted))
		}
	}
}

// P11.6: bytes that are handed in.
func TestBytesHandedIn(t *testing.T) {
	for _, v := range edgeValues() {
		form := values.formOf(t, v)
		wantKept(t, values, form)
		wantKept(t, values, form[:len(form)-1])
	}
	for _, l := range edgePayloads() {
		form := payloads.formOf(t, l)
		wantKept(t, payloads, form)
		wantKept(t, payloads, form[:len(form)-1])
	}
	for _, m := range edgeMessages() {
		form := messages.formOf(t, m)
		wantKept(t, messages, form)
		wantKept(t, messages, form[:len(form)-1])
	}
}

// P11.3, P11.6: bytes that are handed to Rows stay as they were, are looked at up to their end alone, and may be written over behind the call.
func TestRowsHandedIn(t *testing.T) {
	b, rows := rowOf(t, someMessages()...)
	more, _ := rowOf(t, mail(5, "more"), mail(6, "still"))
	handed := roomy(b, more...)
	all := handed[:cap(handed)]
	kept := slices.Clone(all)
	over, left, fresh := wire.Rows(handed), wire.Rows(handed), wire.Rows(handed)
	first := told(over, len(rows))
	for range left {
		break
	}
	if !bytes.Equal(all, kept) {
		complain(t, "what was handed in is changed: %.150x; want %.150x", all, kept)
	}
	overwrite(handed, 0xff)
	for _, got := range [][]row{first, told(over, len(rows)), told(left, len(rows)), told(fresh, len(rows))} {
		if !exactlyRows(got, rows) {
			complain(t, "Rows of bytes that were written over: %v; want %v", got, rows)
		}
	}
	wantRows(t, handed)
}

// P11.6: a form is new memory, the room behind it too.
func TestNewForms(t *testing.T) {
	for _, m := range edgeMessages() {
		wanted := bytesOf(func() string { s, _ := refMessage(m); return s }())
		a, b := messages.formOf(t, m), messages.formOf(t, m)
		behind := append(b, 1, 2, 3)
		overwrite(a, 0xff)
		if !bytes.Equal(b, wanted) || !bytes.Equal(behind, append(slices.Clone(wanted), 1, 2, 3)) || !bytes.Equal(messages.formOf(t, m), wanted) {
			complain(t, "a form changes with another one: %.150x, %.150x; want %.150x", b, behind, wanted)
		}
		p, q := payloads.formOf(t, m.Payload), payloads.formOf(t, m.Payload)
		kept := slices.Clone(q)
		overwrite(p, 0xff)
		if !bytes.Equal(q, kept) || !bytes.Equal(payloads.formOf(t, m.Payload), kept) {
			complain(t, "a form changes with another one: %.150x; want %.150x", q, kept)
		}
		for _, v := range m.Payload {
			x, y := values.formOf(t, v), values.formOf(t, v)
			kept := slices.Clone(y)
			overwrite(x, 0xff)
			if !bytes.Equal(y, kept) || !bytes.Equal(values.formOf(t, v), kept) {
				complain(t, "a form changes with another one: %.150x; want %.150x", y, kept)
			}
		}
	}
}

// P11.6: a list of values that is read is new memory, the room behind it too.
func TestNewLists(t *testing.T) {
	for _, l := range edgePayloads() {
		form, mailed := payloads.formOf(t, l), messages.formOf(t, mail(1, "a", l...))
		a, _, _ := wire.ReadPayload(form)
		b, _, _ := wire.ReadPayload(form)
		c, _, _ := wire.ReadMessage(mailed)
		d, _, _ := wire.ReadMessage(mailed)
		behind := append(b, said("behind"))
		overwrite(a, said("over"))
		overwrite(c.Payload, said("over"))
		wanted := refPlainPayload(l)
		if !exactlyPayload(b, wanted) || !exactlyPayload(behind, append(wanted, said("behind"))) || !exactlyPayload(d.Payload, wanted) {
			complain(t, "a list changes with another one: %v, %v, %v; want %v", b, behind, d.Payload, wanted)
		}
		payloads.wantRead(t, form, l, len(form))
	}
}

// P11.6: nothing is kept from call to call; calls beside one another answer what each would answer alone.
func TestBeside(t *testing.T) {
	d := newDraw(3)
	l := append(many(d.message, 60), someMessages()...)
	b, rows := rowOf(t, l...)
	seq := wire.Rows(b)
	var group sync.WaitGroup
	for range 8 {
		group.Go(func() {
			for _, m := range l {
				messages.wantWritten(t, m)
				messages.wantRefused(t, mail(-1, "a", m.Payload...))
				values.wantUnread(t, []byte{5, 0})
			}
			if got := told(seq, len(rows)); !exactlyRows(got, rows) {
				complain(t, "beside others: %v; want %v", got, rows)
			}
		})
	}
	group.Wait()
}

// P0.1: ends, and does not panic, at what is very long.
func TestLong(t *testing.T) {
	ints := make([]api.Value, 1<<20)
	for i := range ints {
		ints[i] = whole(math.MinInt64)
	}
	payloads.wantRefused(t, ints)
	noughts := make([]byte, 1<<20)
	values.wantNothing(t, noughts)
	messages.wantNothing(t, noughts)
	if l, n, fault := wire.ReadPayload(noughts); fault != api.OK || n != 1 || len(l) != 0 {
		t.Errorf("ReadPayload of noughts: %v, %d, %v", l, n, fault)
	}
	form := messages.formOf(t, mail(1, "a"))
	n := 0
	for m, at := range wire.Rows(bytes.Repeat(form, 100000)) {
		n++
		if at != 7*n || m.ID != 1 || m.Tag != "a" || len(m.Payload) != 0 {
			t.Fatalf("the message %d: %v, %d", n, m, at)
		}
	}
	if n != 100000 {
		t.Errorf("Rows told %d of 100000", n)
	}
}
