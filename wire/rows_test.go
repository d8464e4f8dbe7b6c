package wire_test

import (
	"iter"
	"slices"
	"testing"

	"chordmail/api"
	"chordmail/wire"
)

// someMessages are unlike each other in each field.
func someMessages() []api.Message {
	return []api.Message{
		mail(7, "a", said("x")),
		mail(0, "put"),
		mail(1048575, "\x00\xff", whole(-1), pair(nan, minus), said("")),
		mail(7, "a", said("x")),
		mail(2, "long", sized(256), sized(256), sized(256), sized(256)),
	}
}

// rowOf are forms one behind the other, and what Rows is to tell of them.
func rowOf(t *testing.T, l ...api.Message) ([]byte, []row) {
	t.Helper()
	var b []byte
	var rows []row
	for _, m := range l {
		b = append(b, messages.formOf(t, m)...)
		rows = append(rows, row{refPlainMessage(m), len(b)})
	}
	return b, rows
}

// P11.3: no message, one, several; each place is the one behind its message.
func TestRows(t *testing.T) {
	wantRows(t, nil)
	wantRows(t, []byte{})
	l := someMessages()
	for i := range l {
		b, rows := rowOf(t, l[i])
		wantRows(t, b, rows...)
		b, rows = rowOf(t, l[:i+1]...)
		wantRows(t, b, rows...)
		b, rows = rowOf(t, l[i], l[i], l[i])
		wantRows(t, b, rows...)
	}
	wantRows(t, bytesOf("00000007 01 61 00  00000102 03 707574 01 04 0001 78  00000000 01 62 00"), row{mail(7, "a"), 7}, row{mail(258, "put", said("x")), 20}, row{mail(0, "b"), 27})
	b, rows := rowOf(t, edgeMessages()...)
	wantRows(t, b, rows...)
}

// P11.3: up to the first place at which no form begins, whatever stands there and behind it.
func TestRowsEnd(t *testing.T) {
	b, rows := rowOf(t, someMessages()...)
	for _, behind := range []string{"00", "09", "ff", "00000001", "00000001 01 61", "00000001 01 61 07", "00000001 00 00", "00100000 01 61 00", "ffffffff 01 61 00", "00000001 01 61 01 05 00", "00000001 01 61 01 02 7ff8000000000000"} {
		wrong := bytesOf(behind)
		wantRows(t, wrong)
		wantRows(t, slices.Concat(wrong, b), refRows(slices.Concat(wrong, b))...)
		wantRows(t, slices.Concat(b, wrong), rows...)
	}
	wrong := bytesOf("ffffffff")
	wantRows(t, slices.Concat(wrong, b))
	for i := range rows {
		at := rows[i].at
		wantRows(t, slices.Concat(b[:at], wrong, b[at:]), rows[:i+1]...)
	}
}

// P11.3: a row cut off behind each of its bytes.
func TestRowsCutOff(t *testing.T) {
	b, rows := rowOf(t, someMessages()...)
	for i := range b {
		whole := 0
		for whole < len(rows) && rows[whole].at <= i {
			whole++
		}
		wantRows(t, b[:i], rows[:whole]...)
	}
}

// P11.3: left behind each message, in a loop and by hand, and gone over again from the beginning.
func TestRowsLeft(t *testing.T) {
	b, rows := rowOf(t, someMessages()...)
	all := wire.Rows(b)
	for stop := range rows {
		if got := told(all, stop); !exactlyRows(got, rows[:stop+1]) {
			complain(t, "left behind %d: %v; want %v", stop+1, got, rows[:stop+1])
		}
		calls := 0
		all(func(m api.Message, at int) bool {
			if calls > stop || at != rows[calls].at || !exactlyMessage(m, rows[calls].m) {
				complain(t, "left behind %d, told: %v", stop+1, row{m, at})
			}
			calls++
			return calls <= stop
		})
		if calls != stop+1 {
			t.Errorf("left behind %d: %d were told", stop+1, calls)
		}
	}
	for range 2 {
		if got := told(all, len(rows)); !exactlyRows(got, rows) {
			complain(t, "gone over again: %v; want %v", got, rows)
		}
	}
}

// wantWithin holds that a sequence tells all its rows, though behind each one of them another is begun, and left behind some of its own.
func wantWithin(t *testing.T, around, within iter.Seq2[api.Message, int], rows []row, stop int) {
	t.Helper()
	var outer []row
	for m, at := range around {
		if outer = append(outer, row{m, at}); len(outer) > len(rows) {
			break
		}
		if inner := told(within, stop-1); !exactlyRows(inner, rows[:stop]) {
			complain(t, "within: %v; want %v", inner, rows[:stop])
		}
	}
	if !exactlyRows(outer, rows) {
		complain(t, "around, with %d within: %v; want %v", stop, outer, rows)
	}
}

// P11.3: gone over within itself, and two sequences of the same bytes beside each other.
func TestRowsWithin(t *testing.T) {
	b, rows := rowOf(t, someMessages()...)
	all := wire.Rows(b)
	for i := range rows {
		wantWithin(t, all, all, rows, i+1)
		wantWithin(t, all, wire.Rows(b), rows, i+1)
	}
}

// P11.3: what is told of each message is memory of its own, each time anew.
func TestRowsMemory(t *testing.T) {
	b, rows := rowOf(t, someMessages()...)
	all := wire.Rows(b)
	for range 2 {
		n := 0
		for m, at := range all {
			if got := (row{m, at}); !exactlyRows([]row{got}, rows[n:n+1]) {
				complain(t, "%v; want %v", got, rows[n])
			}
			overwrite(m.Payload, said("over"))
			n++
		}
	}
}
