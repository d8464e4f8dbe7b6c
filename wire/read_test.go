package wire_test

import (
	"fmt"
	"slices"
	"strings"
	"testing"

	"chordmail/api"
)

// wantCutOff holds that a form begins with nothing once it is cut off behind any of its bytes, and that what stands behind it is not looked at.
func wantCutOff[T any](t *testing.T, f face[T], x T) {
	t.Helper()
	form := f.formOf(t, x)
	for i := range form {
		f.wantNothing(t, form[:i:i])
		f.wantNothing(t, form[:i]) // the others stand in the room behind
	}
	for _, behind := range behinds() {
		f.wantRead(t, slices.Concat(form, behind), x, len(form))
	}
	f.wantRead(t, slices.Concat(form, form), x, len(form))
}

// P11.2: each form cut off behind each of its bytes, and with bytes behind it.
func TestCutOff(t *testing.T) {
	for _, v := range edgeValues() {
		wantCutOff(t, values, v)
	}
	for _, l := range edgePayloads() {
		wantCutOff(t, payloads, l)
	}
	for _, m := range edgeMessages() {
		wantCutOff(t, messages, m)
	}
}

// P11.2: no bytes.
func TestReadNothing(t *testing.T) {
	for _, b := range [][]byte{nil, {}, make([]byte, 0, 40)} {
		values.wantUnread(t, b)
		payloads.wantUnread(t, b)
		messages.wantUnread(t, b)
	}
}

// unreadValues are bytes that begin with no value's form, though there are enough of them.
func unreadValues() []string {
	var l []string
	for kind := range 256 {
		if kind < 1 || kind > 4 {
			for _, behind := range []string{"", "00", "01", "0000000000000001", strings.Repeat("00", 40), strings.Repeat("01", 40)} {
				l = append(l, fmt.Sprintf("%02x%s", kind, behind))
			}
		}
	}
	for _, many := range []int{257, 258, 511, 512, 513, 1024, 4096, 32768, 65280, 65535} {
		l = append(l, fmt.Sprintf("04%04x", many)+strings.Repeat("61", many), fmt.Sprintf("04%04x", many)+strings.Repeat("00", many+3), fmt.Sprintf("04%04x", many)+strings.Repeat("61", 256))
	}
	return append(l, unreadReals()...)
}

// unreadReals are bytes with what is no number in other bits than the chapter's, in a real, in either part of a complex number, in both.
func unreadReals() []string {
	const right, one = "7ff8000000000001", "3ff0000000000000"
	var l []string
	for _, bits := range otherBits() {
		wrong := fmt.Sprintf("%016x", bits)
		l = append(l, "02"+wrong, "03"+wrong+one, "03"+one+wrong, "03"+wrong+right, "03"+right+wrong, "03"+wrong+wrong)
	}
	return l
}

// P11.2: kinds that there are not, and bools; texts that are too long; what is no number in other bits.
func TestValueUnread(t *testing.T) {
	for _, s := range unreadValues() {
		values.wantUnread(t, bytesOf(s))
		values.wantUnread(t, bytesOf(s+"0000000000"))
	}
	for i := range 52 {
		bits := fmt.Sprintf("%016x", uint64(0x7ff8000000000001)^1<<i)
		values.wantUnread(t, bytesOf("02"+bits))
		values.wantUnread(t, bytesOf("03"+bits+"0000000000000000"))
		values.wantUnread(t, bytesOf("03 0000000000000000"+bits))
	}
	for i := range 52 {
		values.wantUnread(t, bytesOf(fmt.Sprintf("02%016x", uint64(0x7ff0000000000000)|1<<i)))
		values.wantUnread(t, bytesOf(fmt.Sprintf("02%016x", uint64(0xfff0000000000000)|1<<i)))
	}
}

// P11.2: one bit less in the exponent, and it is a number.
func TestReadNearNoNumber(t *testing.T) {
	values.wantRead(t, bytesOf("02 7fe8000000000001"), scaled(0x1.8000000000001p1023), 9)
	values.wantRead(t, bytesOf("02 3ff8000000000001"), scaled(0x1.8000000000001p0), 9)
	values.wantRead(t, bytesOf("02 0008000000000001"), scaled(0x8000000000001p-1074), 9)
	values.wantRead(t, bytesOf("02 fff0000000000000"), scaled(-inf), 9)
	values.wantRead(t, bytesOf("03 7ff8000000000001 fff0000000000000"), pair(nan, -inf), 17)
	values.wantRead(t, bytesOf("03 ffefffffffffffff 7ff8000000000001"), pair(-greatest, nan), 17)
}

// P11.2: more values than there may be, too many bytes of them, and what is no value's form at each place.
func TestPayloadUnread(t *testing.T) {
	ints := strings.Repeat("01 0000000000000001", 256)
	none := strings.Repeat("04 00 00", 256)
	for many := 7; many < 256; many++ {
		payloads.wantUnread(t, bytesOf(fmt.Sprintf("%02x", many)+ints))
		payloads.wantUnread(t, bytesOf(fmt.Sprintf("%02x", many)+none))
	}
	text := func(many int) string { return fmt.Sprintf("04%04x", many) + strings.Repeat("61", many) }
	long := text(256)
	for _, s := range []string{
		"05" + strings.Repeat(long, 4) + text(1),
		"05" + text(1) + strings.Repeat(long, 4),
		"05" + long + long + text(1) + long + long,
		"05" + strings.Repeat(long, 5),
		"06" + strings.Repeat(long, 6),
		"06" + strings.Repeat(long, 4) + "040000" + text(1),
		"05" + strings.Repeat(long, 4) + "01 0000000000000000",
		"05" + strings.Repeat(long, 3) + text(249) + "02 0000000000000000",
		"05 03 0000000000000000 0000000000000000" + strings.Repeat(long, 3) + text(241),
	} {
		payloads.wantUnread(t, bytesOf(s))
		payloads.wantUnread(t, bytesOf(s+none))
		messages.wantUnread(t, bytesOf("00000001 01 61"+s))
	}
	for _, wrong := range unreadValues() {
		if len(wrong) > 600 {
			continue
		}
		payloads.wantUnread(t, bytesOf("01"+wrong))
		for at := range 6 {
			s := "06" + strings.Repeat("01 0000000000000007", at) + wrong + strings.Repeat("04 0001 61", 5-at)
			payloads.wantUnread(t, bytesOf(s))
			messages.wantUnread(t, bytesOf("00000001 01 61"+s))
		}
	}
}

// P11.2: as many values as are told, and no more are looked at.
func TestPayloadRead(t *testing.T) {
	var l []api.Value
	for many := range 7 {
		form := payloads.formOf(t, l)
		for _, behind := range []string{"01 0000000000000001", "05", "00", "ff", "04 0101" + strings.Repeat("61", 257)} {
			payloads.wantRead(t, slices.Concat(form, bytesOf(behind)), l, len(form))
		}
		l = append(l, whole(int64(many)))
	}
}

// P11.2: IDs and Tags that may not be.
func TestMessageUnread(t *testing.T) {
	for _, id := range []string{"00100000", "00100001", "001fffff", "00200000", "00800000", "00ffffff", "01000000", "01000001", "10000000", "7fffffff", "80000000", "80000001", "fff00000", "ffffffff"} {
		messages.wantUnread(t, bytesOf(id+"01 61 00"))
		messages.wantUnread(t, bytesOf(id+"01 61 01 01 0000000000000001"))
	}
	for _, s := range []string{"00", "00 00", "00 61 00", "00 01 61 00", "00 01 01 0000000000000001"} {
		messages.wantUnread(t, bytesOf("00000001"+s+strings.Repeat("00", 40)))
	}
	for many := 33; many < 256; many++ {
		messages.wantUnread(t, bytesOf(fmt.Sprintf("00000001%02x", many)+strings.Repeat("61", many)+"00"))
		messages.wantUnread(t, bytesOf(fmt.Sprintf("00000001%02x", many)+strings.Repeat("00", many+40)))
	}
	for many := 1; many < 33; many++ {
		tag := strings.Repeat("a", many)
		head := bytesOf(fmt.Sprintf("00000001%02x%x", many, tag))
		messages.wantRead(t, append(head, 0), mail(1, tag), 6+many)
		messages.wantUnread(t, append(head, 7))
		messages.wantUnread(t, append(head, 1, 5, 0))
	}
}

// P11.2: where several things are wrong at once it is ErrWire as well, and nothing else.
func TestUnreadAtOnce(t *testing.T) {
	messages.wantUnread(t, bytesOf("ffffffff ff 61"))
	messages.wantUnread(t, bytesOf("ffffffff 00 07 05"))
	messages.wantUnread(t, bytesOf("00100000 21"+strings.Repeat("61", 33)+"01 05 00"))
	payloads.wantUnread(t, bytesOf("07 05"))
	payloads.wantUnread(t, bytesOf("ff"+strings.Repeat("04 0101"+strings.Repeat("61", 257), 7)))
	values.wantUnread(t, bytesOf("04 ffff"))
}

// P11.2: all bytes of at most two, and all of at most six out of a few that begin something.
func TestReadShort(t *testing.T) {
	read := 0
	short := func(b []byte) {
		t.Helper()
		for _, ok := range []bool{values.wantReference(t, b), payloads.wantReference(t, b), messages.wantReference(t, b)} {
			if ok {
				read++
			}
		}
	}
	for a := range 256 {
		short([]byte{byte(a)})
		for b := range 256 {
			short([]byte{byte(a), byte(b)})
		}
	}
	var grow func(b []byte)
	grow = func(b []byte) {
		short(b)
		if len(b) < 6 {
			for _, c := range []byte{0, 1, 2, 4, 5} {
				grow(append(slices.Clone(b), c))
			}
		}
	}
	grow(nil)
	if read < 4000 {
		t.Errorf("just %d forms were read", read)
	}
}
