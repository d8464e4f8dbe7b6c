package wire_test

import (
	"math"
	"slices"
	"strings"
	"testing"

	"chordmail/api"
	"chordmail/wire"
)

// P11.1: the form of each sort of value, byte by byte.
func TestValueForms(t *testing.T) {
	for _, c := range []struct {
		v    api.Value
		form string
	}{
		{whole(0), "01 00 00 00 00 00 00 00 00"},
		{whole(1), "01 00 00 00 00 00 00 00 01"},
		{whole(-1), "01 ff ff ff ff ff ff ff ff"},
		{whole(-2), "01 ff ff ff ff ff ff ff fe"},
		{whole(0x0102030405060708), "01 01 02 03 04 05 06 07 08"},
		{whole(-256), "01 ff ff ff ff ff ff ff 00"},
		{whole(math.MaxInt64), "01 7f ff ff ff ff ff ff ff"},
		{whole(math.MinInt64), "01 80 00 00 00 00 00 00 00"},
		{whole(math.MinInt64 + 1), "01 80 00 00 00 00 00 00 01"},
		{scaled(1), "02 3f f0 00 00 00 00 00 00"},
		{scaled(-1.5), "02 bf f8 00 00 00 00 00 00"},
		{scaled(0.1), "02 3f b9 99 99 99 99 99 9a"},
		{scaled(0), "02 00 00 00 00 00 00 00 00"},
		{scaled(minus), "02 80 00 00 00 00 00 00 00"},
		{scaled(least), "02 00 00 00 00 00 00 00 01"},
		{scaled(-least), "02 80 00 00 00 00 00 00 01"},
		{scaled(normal - least), "02 00 0f ff ff ff ff ff ff"},
		{scaled(least - normal), "02 80 0f ff ff ff ff ff ff"},
		{scaled(normal), "02 00 10 00 00 00 00 00 00"},
		{scaled(0x123456789abcdp-1074), "02 00 01 23 45 67 89 ab cd"},
		{scaled(greatest), "02 7f ef ff ff ff ff ff ff"},
		{scaled(-greatest), "02 ff ef ff ff ff ff ff ff"},
		{scaled(inf), "02 7f f0 00 00 00 00 00 00"},
		{scaled(-inf), "02 ff f0 00 00 00 00 00 00"},
		{scaled(nan), "02 7f f8 00 00 00 00 00 01"},
		{pair(0, minus), "03 00 00 00 00 00 00 00 00 80 00 00 00 00 00 00 00"},
		{pair(minus, 0), "03 80 00 00 00 00 00 00 00 00 00 00 00 00 00 00 00"},
		{pair(1, -2), "03 3f f0 00 00 00 00 00 00 c0 00 00 00 00 00 00 00"},
		{pair(nan, -inf), "03 7f f8 00 00 00 00 00 01 ff f0 00 00 00 00 00 00"},
		{pair(inf, nan), "03 7f f0 00 00 00 00 00 00 7f f8 00 00 00 00 00 01"},
		{pair(nan, nan), "03 7f f8 00 00 00 00 00 01 7f f8 00 00 00 00 00 01"},
		{pair(least, -greatest), "03 00 00 00 00 00 00 00 01 ff ef ff ff ff ff ff ff"},
		{said(""), "04 00 00"},
		{said("a"), "04 00 01 61"},
		{said("ab"), "04 00 02 61 62"},
		{said("\x00"), "04 00 01 00"},
		{said("\x80\xff\x00"), "04 00 03 80 ff 00"},
		{said(strings.Repeat("a", 255)), "04 00 ff" + strings.Repeat("61", 255)},
		{said(strings.Repeat("\xff", 256)), "04 01 00" + strings.Repeat("ff", 256)},
	} {
		values.wantForm(t, c.v, bytesOf(c.form))
	}
	for _, v := range edgeValues() {
		values.wantWritten(t, v)
	}
}

// P11.1: of what is no number one form alone, of whichever bits it is.
func TestNoNumber(t *testing.T) {
	const form = "7f f8 00 00 00 00 00 01"
	for _, f := range append(otherNaNs(), nan, -nan, inf-inf, 0*inf) {
		values.wantForm(t, scaled(f), bytesOf("02"+form))
		values.wantForm(t, pair(f, 1), bytesOf("03"+form+"3ff0000000000000"))
		values.wantForm(t, pair(minus, f), bytesOf("03 8000000000000000"+form))
		for _, g := range otherNaNs() {
			values.wantForm(t, pair(f, g), bytesOf("03"+form+form))
		}
		payloads.wantForm(t, list(scaled(f), whole(1), pair(0, f)), bytesOf("03 02"+form+"01 0000000000000001 03 0000000000000000"+form))
	}
}

// P11.1: bools and what may not be, with something in the other fields, too.
func TestValueRefused(t *testing.T) {
	for _, v := range never() {
		values.wantRefused(t, v)
		values.wantRefused(t, dressed(v))
	}
}

// P11.1: payloads of each number of values, and of sizes at the edge.
func TestPayloadForms(t *testing.T) {
	payloads.wantForm(t, nil, []byte{0})
	payloads.wantForm(t, []api.Value{}, []byte{0})
	payloads.wantForm(t, list(whole(1)), bytesOf("01 01 0000000000000001"))
	payloads.wantForm(t, list(whole(5), said("")), bytesOf("02 01 00 00 00 00 00 00 00 05 04 00 00"))
	payloads.wantForm(t, list(said(""), said("")), bytesOf("02 04 00 00 04 00 00"))
	payloads.wantForm(t, list(said("b"), scaled(1), pair(0, minus), whole(-1), said("\x00"), said("")), bytesOf("06 04 00 01 62 02 3ff0000000000000 03 0000000000000000 8000000000000000 01 ffffffffffffffff 04 00 01 00 04 00 00"))
	long := "04 01 00" + strings.Repeat("74", 256)
	payloads.wantForm(t, list(sized(256), sized(256), sized(256), sized(256)), bytesOf("04"+strings.Repeat(long, 4)))
	payloads.wantForm(t, list(sized(256), sized(256), sized(256), sized(255)), bytesOf("04"+strings.Repeat(long, 3)+"04 00 ff"+strings.Repeat("74", 255)))
	payloads.wantForm(t, list(said(""), sized(256), sized(256), sized(256), sized(256), said("")), bytesOf("06 04 00 00"+strings.Repeat(long, 4)+"04 00 00"))
	payloads.wantForm(t, list(whole(0), sized(256), sized(256), sized(256), sized(248)), bytesOf("05 01 0000000000000000"+strings.Repeat(long, 3)+"04 00 f8"+strings.Repeat("74", 248)))
	for _, l := range edgePayloads() {
		payloads.wantWritten(t, l)
	}
}

// P11.1: too many values, one too many bytes, and what may not be at each place.
func TestPayloadRefused(t *testing.T) {
	for _, l := range neverPayloads() {
		payloads.wantRefused(t, l)
	}
}

// P11.1: sums of sizes from one below MaxSize to one above it, whatever they are made of.
func TestPayloadSizes(t *testing.T) {
	for _, v := range list(said(""), said("a"), whole(1), scaled(1), pair(1, 1), sized(200)) {
		for _, size := range []int{1023, 1024, 1025} {
			texts := list(sized(198), sized(199), sized(201), sized(202), sized(size-800-refSize(v)))
			for at := range len(texts) + 1 {
				l := slices.Insert(slices.Clone(texts), at, v)
				if form := payloads.wantWritten(t, l); (form == nil) != (size > 1024) {
					complain(t, "%d bytes have the form %.150x", size, form)
				}
			}
		}
	}
}

// P11.1: IDs and Tags, byte by byte.
func TestMessageForms(t *testing.T) {
	for _, c := range []struct {
		m    api.Message
		form string
	}{
		{mail(258, "put"), "00 00 01 02 03 70 75 74 00"},
		{mail(0, "a"), "00 00 00 00 01 61 00"},
		{mail(1, "a"), "00 00 00 01 01 61 00"},
		{mail(255, "a"), "00 00 00 ff 01 61 00"},
		{mail(256, "a"), "00 00 01 00 01 61 00"},
		{mail(66051, "a"), "00 01 02 03 01 61 00"},
		{mail(1048575, "a"), "00 0f ff ff 01 61 00"},
		{mail(1, "\x00"), "00 00 00 01 01 00 00"},
		{mail(1, "\xff\x00 "), "00 00 00 01 03 ff 00 20 00"},
		{mail(1, strings.Repeat("n", 32)), "00 00 00 01 20" + strings.Repeat("6e", 32) + "00"},
		{mail(1, "put", whole(-2), said("ab")), "00 00 00 01 03 70 75 74 02 01 fffffffffffffffe 04 00 02 61 62"},
	} {
		messages.wantForm(t, c.m, bytesOf(c.form))
	}
	for _, m := range edgeMessages() {
		messages.wantWritten(t, m)
	}
}

// P11.1: IDs below 0 and from MaxMail on, no Tag and too long ones, payloads that may not be.
func TestMessageRefused(t *testing.T) {
	for _, m := range neverMessages() {
		messages.wantRefused(t, m)
	}
}

// What is in the chapter's table of examples.
func TestExamples(t *testing.T) {
	values.wantForm(t, whole(-2), bytesOf("01 ff ff ff ff ff ff ff fe"))
	values.wantForm(t, said("ab"), bytesOf("04 00 02 61 62"))
	values.wantForm(t, scaled(1), bytesOf("02 3f f0 00 00 00 00 00 00"))
	values.wantForm(t, scaled(nan), bytesOf("02 7f f8 00 00 00 00 00 01"))
	values.wantForm(t, pair(0, minus), append(append([]byte{3}, make([]byte, 8)...), 0x80, 0, 0, 0, 0, 0, 0, 0))
	values.wantRefused(t, truth(1))
	values.wantRefused(t, sized(257))
	payloads.wantRefused(t, list(whole(1), whole(2), whole(3), whole(4), whole(5), whole(6), whole(7)))
	payloads.wantRefused(t, list(sized(256), sized(256), sized(256), sized(256), sized(256)))
	payloads.wantForm(t, nil, bytesOf("00"))
	payloads.wantForm(t, list(whole(5), said("")), bytesOf("02 01 00 00 00 00 00 00 00 05 04 00 00"))
	messages.wantForm(t, mail(258, "put"), bytesOf("00 00 01 02 03 70 75 74 00"))
	messages.wantRefused(t, mail(-1, "put"))
	messages.wantRefused(t, mail(258, ""))
	values.wantRead(t, bytesOf("04 00 01 61 62"), said("a"), 4)
	for _, b := range []string{"04 00 02 61", "05 00", "02 7f f8 00 00 00 00 00 00", "04 01 01" + strings.Repeat("00", 257)} {
		values.wantUnread(t, bytesOf(b))
	}
}

// P11.1: the errors' numbers are api's.
func TestErrors(t *testing.T) {
	if _, fault := wire.Value(truth(0)); fault != 2 {
		t.Errorf("Value of a bool: %d; want 2", int(fault))
	}
	if _, _, fault := wire.ReadValue(nil); fault != 110 {
		t.Errorf("ReadValue of no bytes: %d; want 110", int(fault))
	}
}
