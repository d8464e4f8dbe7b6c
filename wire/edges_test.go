package wire_test

import (
	"math"
	"strings"

	"chordmail/api"
)

// otherNaNs are what is no number, in all sorts of bits.
func otherNaNs() []float64 {
	var l []float64
	for _, bits := range otherBits() {
		l = append(l, math.Float64frombits(bits))
	}
	return l
}

// otherBits are bits of what is no number that are not the chapter's.
func otherBits() []uint64 {
	return []uint64{0x7ff8000000000000, 0x7ff8000000000002, 0x7ff8000000000003, 0x7ff0000000000001, 0x7ff0000000000002, 0x7ff4000000000000, 0x7ff8000000000101, 0x7ff8000100000001, 0x7ff9000000000001, 0x7fffffffffffffff,
		0xfff8000000000000, 0xfff8000000000001, 0xfff0000000000001, 0xffffffffffffffff}
}

// edgeReals are the reals at which something begins or ends, with both signs.
func edgeReals() []float64 {
	l := []float64{0, least, 2 * least, 3 * least, normal - least, normal, normal + least, 0x1p-300, 0.1, 0.5, 1, 1.5, 2, 3, 1 << 52, 1<<53 - 1, 0x1p300, 0x1p1023, math.Nextafter(greatest, 0), greatest, inf}
	for _, f := range l {
		l = append(l, -f)
	}
	return append(l, minus, nan)
}

// edgeValues are values that may be, and no bools; no two of them the same.
func edgeValues() []api.Value {
	var l []api.Value
	for _, n := range []int64{0, 1, -1, 2, -2, 127, 128, 255, 256, -255, -256, 0x0102030405060708, -0x0102030405060708, 1 << 31, 1 << 32, -1 << 32, math.MaxInt64 - 1, math.MaxInt64, math.MinInt64 + 1, math.MinInt64} {
		l = append(l, whole(n))
	}
	few := []float64{nan, -inf, -1, minus, 0, least, 1.5, greatest}
	seen := map[uint64]bool{}
	for _, f := range edgeReals() {
		if bits := math.Float64bits(f); !seen[bits] {
			seen[bits] = true
			l = append(l, scaled(f))
		}
	}
	for _, re := range few {
		for _, im := range few {
			l = append(l, pair(re, im))
		}
	}
	for _, s := range []string{"", "a", "ab", "b", "\x00", "\x00\x00", "\x80", "\xff", "\xff\xfe", "é", "\x01\x00", "\x04\x00\x00", strings.Repeat("a", 7), strings.Repeat("a", 8), strings.Repeat("a", 9), strings.Repeat("a", 254), strings.Repeat("\x00", 255), strings.Repeat("\xff", 255), strings.Repeat("a", 256), strings.Repeat("\x00", 256), strings.Repeat("\xff", 256)} {
		l = append(l, said(s))
	}
	return l
}

// never are values that may not be, and bools.
func never() []api.Value {
	return []api.Value{
		truth(0), truth(1), truth(2), truth(-1), truth(math.MaxInt64), {},
		{Kind: -1}, {Kind: -4}, {Kind: 6}, {Kind: 7}, {Kind: 255}, {Kind: 256}, {Kind: 257}, {Kind: 258}, {Kind: 260, Text: "a"}, {Kind: -255}, {Kind: math.MaxInt}, {Kind: math.MinInt}, {Kind: math.MinInt + 1}, {Kind: 1<<32 + 1}, {Kind: 1<<32 + 4, Text: "a"},
		{Int: 1, Real: 2, Comp: 3, Text: "x"}, {Kind: 6, Int: 1, Real: 1, Comp: 1, Text: "a"}, {Kind: -1, Int: 1, Real: 1, Comp: 1, Text: "a"},
		sized(257), sized(258), sized(512), sized(1024), sized(65535), sized(65536), sized(65537), sized(65792), sized(1 << 20),
	}
}

// edgePayloads are payloads that may be, no two of them the same.
func edgePayloads() [][]api.Value {
	l := [][]api.Value{
		nil,
		list(whole(5), said("")),
		list(said(""), whole(5)),
		list(said(""), said("")),
		list(said(""), said(""), said(""), said(""), said(""), said("")),
		list(whole(0), whole(1), whole(-1), whole(math.MaxInt64), whole(math.MinInt64), whole(7)),
		list(pair(1, 2), pair(minus, nan), pair(nan, 0), pair(inf, -inf), pair(least, -greatest), pair(nan, nan)),
		list(whole(-2), scaled(minus), pair(0, minus), said("ab"), scaled(nan), said("\x00\xff")),
		list(sized(256), sized(256), sized(256), sized(255)),
		list(sized(256), sized(256), sized(256), sized(256)),
		list(sized(256), sized(256), sized(256), sized(255), sized(1)),
		list(said(""), sized(256), said(""), sized(256), sized(256), sized(256)),
		list(sized(256), sized(256), sized(256), sized(248), whole(1)),
		list(scaled(1), sized(256), sized(256), sized(256), sized(248)),
		list(sized(256), pair(1, 1), sized(256), sized(256), sized(240)),
		list(sized(256), sized(256), sized(256), sized(239), pair(1, 1)),
		list(whole(1), scaled(1), pair(1, 1), sized(256), sized(256), sized(256)),
	}
	for _, v := range edgeValues() {
		l = append(l, list(v))
	}
	return l
}

// neverPayloads are payloads that may not be.
func neverPayloads() [][]api.Value {
	l := [][]api.Value{
		make([]api.Value, 1), make([]api.Value, 7), make([]api.Value, 256),
		list(sized(256), sized(256), sized(256), sized(256), sized(1)),
		list(sized(1), sized(256), sized(256), sized(256), sized(256)),
		list(sized(256), sized(256), sized(256), sized(256), sized(256)),
		list(sized(256), sized(256), sized(256), sized(256), sized(256), sized(256)),
		list(sized(256), sized(256), sized(256), sized(256), whole(0)),
		list(sized(256), sized(256), sized(256), sized(249), whole(0)),
		list(scaled(0), sized(256), sized(256), sized(256), sized(249)),
		list(sized(256), pair(0, 0), sized(256), sized(256), sized(241)),
		list(sized(256), sized(256), sized(256), sized(255), sized(1), sized(1)),
	}
	for _, many := range []int{7, 8, 12, 255, 256, 257, 262, 65536, 65537} {
		ints, none := make([]api.Value, many), make([]api.Value, many)
		for i := range many {
			ints[i], none[i] = whole(int64(i)), said("")
		}
		l = append(l, ints, none)
	}
	for _, v := range never() {
		l = append(l, list(v))
		for at := range 6 {
			with := list(whole(1), scaled(2), pair(3, 4), said("5"), whole(6), said(""))
			with[at] = v
			l = append(l, with)
		}
		l = append(l, list(whole(1), whole(2), whole(3), whole(4), whole(5), whole(6), v))
	}
	return l
}

// edgeMessages are messages that may be, no two of them the same.
func edgeMessages() []api.Message {
	var l []api.Message
	for _, id := range []int{0, 1, 2, 127, 128, 255, 256, 257, 258, 65535, 65536, 65537, 1<<20 - 2, 1<<20 - 1} {
		l = append(l, mail(id, "a"), mail(id, "put", whole(int64(id))))
	}
	for _, tag := range []string{"b", "ab", "\x00", "\x00\x00", "\xff", " ", "_", "9", "é", "send", "a b", "\x01", strings.Repeat("n", 31), strings.Repeat("n", 32), strings.Repeat("\x00", 32), strings.Repeat("\xff", 32)} {
		l = append(l, mail(3, tag), mail(3, tag, said(tag)))
	}
	for _, p := range edgePayloads() {
		l = append(l, mail(4, "p", p...))
	}
	return l
}

// neverMessages are messages that may not be.
func neverMessages() []api.Message {
	l := []api.Message{{}, mail(1, ""), mail(1, "", whole(1))}
	for _, id := range []int{-1, -2, -255, -256, -1 << 20, 1 << 20, 1<<20 + 1, 1 << 24, math.MaxInt32, math.MinInt32, math.MaxUint32, 1 << 32, 1<<32 + 1, -1 << 32, 1 - 1<<32, math.MaxInt, math.MinInt, math.MinInt + 1} {
		l = append(l, mail(id, "a"), mail(id, "a", whole(1)))
	}
	for _, many := range []int{33, 34, 64, 255, 256, 257, 288, 65536, 65537} {
		l = append(l, mail(1, strings.Repeat("n", many)), mail(1, strings.Repeat("n", many), whole(1)))
	}
	for _, p := range neverPayloads() {
		l = append(l, mail(1, "a", p...))
	}
	return l
}

// behinds are bytes that may stand behind a form.
func behinds() [][]byte {
	return [][]byte{{0}, {1}, {4, 0, 0}, {7}, {255}, bytesOf("01 0000000000000001"), bytesOf("00000000 01 61 00"), make([]byte, 40), bytesOf("ffffffffffffffffffffffffffffffffffffffff")}
}
