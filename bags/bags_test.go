package bags_test

import (
	"fmt"
	"math"
	"slices"
	"strings"
	"testing"

	"chordmail/api"
	"chordmail/bags"
)

// P14.1: an empty mailbox of the tags, in their order; each has its number.
func TestNew(t *testing.T) {
	for _, tags := range [][]string{
		nil,
		{},
		{"a"},
		{""},
		{"", "a"},
		{"b", "a"},
		{"a", "", "b"},
		{"a", "A", "aa", "a ", " a", "a\x00", "\x00a", "ab", "b", "ba", "\xff", "\xc3\xa4", "send", "7"},
		{strings.Repeat("n", 1000), strings.Repeat("n", 1001)},
		manyTags(api.MaxTags - 1),
		manyTags(api.MaxTags),
	} {
		b := made(t, tags...)
		wantBox(t, b, tags, -1)
		for i, tag := range tags {
			own := made(t, tags...)
			wantPut(t, own, mail(7, tag), api.OK)
			wantBox(t, own, tags, 7, mail(7, tag))
			if m := uint64(own.Mask()); m != 1<<i {
				complain(t, "Mask behind a message of %q, the tag %d: %b", tag, i, m)
			}
		}
		wantBox(t, b, tags, -1)
	}
}

// P14.1: 64 tags, all with a message; the 64th has the number 63.
func TestNewMost(t *testing.T) {
	if api.MaxTags != 64 || api.MaxPerTag != 12 {
		t.Fatal("the limits:", api.MaxTags, api.MaxPerTag)
	}
	tags := manyTags(64)
	b := made(t, tags...)
	var there []api.Message
	for i := range 64 * 12 {
		m := mail(2*i, tags[63-i%64])
		wantPut(t, b, m, api.OK)
		there = append(there, m)
	}
	wantBox(t, b, tags, 2*64*12-2, there...)
	if m := uint64(b.Mask()); m != math.MaxUint64 {
		complain(t, "Mask of all: %x", m)
	}
	for _, tag := range tags {
		wantPut(t, b, mail(5000, tag), api.ErrBoxFull)
	}
	wantTake(t, b, there...)
	wantBox(t, b, tags, 2*64*12-2)
}

func wantNoBox(t *testing.T, tags ...string) {
	t.Helper()
	if b, fault := bags.New(tags...); b != nil || fault != api.ErrArg {
		complain(t, "New(%q): %v, %v; want ErrArg", tags, b, fault)
	}
}

// P14.1: more than MaxTags.
func TestNewTooMany(t *testing.T) {
	for many := 65; many <= 100; many++ {
		wantNoBox(t, manyTags(many)...)
	}
	var l []string
	for i := range 10000 {
		l = append(l, fmt.Sprint(i))
	}
	wantNoBox(t, l...)
	wantNoBox(t, l[:65]...)
	made(t, l[:64]...)
}

// P14.1: two that are alike, at each two places, side by side and far apart; also where there are too many.
func TestNewAlike(t *testing.T) {
	wantNoBox(t, "a", "a")
	wantNoBox(t, "", "")
	wantNoBox(t, "", "a", "")
	wantNoBox(t, "a", "a", "a")
	wantNoBox(t, "a", "b", "a", "b")
	wantNoBox(t, strings.Repeat("n", 1000), "a", strings.Repeat("n", 1000))
	for _, many := range []int{2, 3, 4, 7, 63, 64, 65, 70} {
		for i := range many {
			for k := range i {
				tags := manyTags(many)
				tags[i] = tags[k]
				wantNoBox(t, tags...)
			}
		}
	}
	wantNoBox(t, slices.Repeat([]string{"a"}, 64)...)
	wantNoBox(t, slices.Repeat([]string{"a"}, 65)...)
	wantNoBox(t, slices.Repeat([]string{"a"}, 100)...)
}

// P14.1: two mailboxes of the same tags have nothing to do with one another.
func TestNewApart(t *testing.T) {
	a, b := filled(t, "a b", "1a 4b"), filled(t, "a b", "2b")
	wantTake(t, a, mails("1a")...)
	wantPut(t, b, mail(3, "a"), api.OK)
	wantHas(t, a, "a b", "4b", 4)
	wantHas(t, b, "a b", "2b 3a", 3)
}

// P14.2: each message behind the others of its tag, of all tags by turns, with IDs that rise across them.
func TestPut(t *testing.T) {
	b := made(t, "a", "b", "c")
	all := "0b 1a 2b 5c 6a 7a 100b 101c 1000000a"
	there := ""
	for _, word := range strings.Fields(all) {
		there += " " + word
		m := mails(word)[0]
		wantPut(t, b, m, api.OK)
		wantHas(t, b, "a b c", there, m.ID)
	}
}

// P14.2: into an empty mailbox, of each tag.
func TestPutEach(t *testing.T) {
	for _, first := range []int{0, 1, 2, 77, 1 << 32, math.MaxInt - 1, math.MaxInt} {
		for _, tag := range []string{"a", "b", "c"} {
			b := made(t, "a", "b", "c")
			wantPut(t, b, mail(first, tag), api.OK)
			wantBox(t, b, []string{"a", "b", "c"}, first, mail(first, tag))
		}
	}
}

// P14.2: an ID that is not above the last number, whose message is of the same tag, of another one, or of a tag that there is not.
func TestPutNotAbove(t *testing.T) {
	b := filled(t, "a b c", "2a 7b 9a")
	for _, id := range []int{9, 8, 7, 6, 3, 2, 1, 0, -1, -9, math.MinInt + 1, math.MinInt} {
		for _, tag := range []string{"a", "b", "c", noTag, ""} {
			wantPut(t, b, mail(id, tag), api.ErrArg)
		}
		wantHas(t, b, "a b c", "2a 7b 9a", 9)
	}
	wantPut(t, b, mail(10, "c"), api.OK)
	wantHas(t, b, "a b c", "2a 7b 9a 10c", 10)
}

// P14.2: the first ID may be 0, but not below.
func TestPutFirst(t *testing.T) {
	for _, id := range []int{-1, -2, -100, math.MinInt + 1, math.MinInt} {
		b := made(t, "a", "b")
		for _, tag := range []string{"a", "b", noTag} {
			wantPut(t, b, mail(id, tag), api.ErrArg)
		}
		wantHas(t, b, "a b", "", -1)
		wantPut(t, b, mail(0, "b"), api.OK)
		wantPut(t, b, mail(id, "a"), api.ErrArg)
		wantPut(t, b, mail(0, "a"), api.ErrArg)
		wantHas(t, b, "a b", "0b", 0)
		none := made(t)
		wantPut(t, none, mail(id, "a"), api.ErrArg)
		wantPut(t, none, mail(0, "a"), api.ErrNoTag)
		wantHas(t, none, "", "", -1)
	}
}

// P14.2: behind the greatest int there is no ID, wherever its message is.
func TestPutGreatest(t *testing.T) {
	all := []int{math.MinInt, math.MinInt + 1, -1, 0, 1, 7, math.MaxInt - 1, math.MaxInt}
	tags := []string{"a", "b"}
	for _, first := range []int{3, math.MaxInt - 1} {
		b := made(t, tags...)
		low, high := mail(first, "a"), mail(math.MaxInt, "b")
		wantPut(t, b, low, api.OK)
		wantPut(t, b, high, api.OK)
		for _, b := range []*bags.Box{b, b.Copy()} {
			wantBox(t, b, tags, math.MaxInt, low, high)
			for range 2 {
				for _, id := range all {
					wantPut(t, b, mail(id, "a"), api.ErrArg)
					wantPut(t, b, mail(id, "b"), api.ErrArg)
					wantPut(t, b, mail(id, noTag), api.ErrArg)
				}
				if b.Len("b") == 1 {
					wantTake(t, b, high)
				}
				wantBox(t, b, tags, math.MaxInt, low)
			}
			wantTake(t, b, low)
			wantPut(t, b, mail(math.MaxInt, "a"), api.ErrArg)
			wantBox(t, b, tags, math.MaxInt)
		}
	}
}

// P14.2: a tag that is none of the tags. The last number stays.
func TestPutNoTag(t *testing.T) {
	b := filled(t, "a b", "3a")
	for _, tag := range []string{noTag, "", "A", "c", "aa", "a ", " a", "a\x00", "ab", "0", "1"} {
		for _, id := range []int{4, 5, 1000, math.MaxInt} {
			wantPut(t, b, mail(id, tag), api.ErrNoTag)
		}
		wantHas(t, b, "a b", "3a", 3)
	}
	wantPut(t, b, mail(4, "b"), api.OK)
	wantHas(t, b, "a b", "3a 4b", 4)
}

// full is a mailbox of the tags a and b, with so many messages of b, from the ID 10 on, and one of a.
func full(t *testing.T, many int) (*bags.Box, string) {
	t.Helper()
	there := "1a"
	for i := range many {
		there += fmt.Sprint(" ", 10+i, "b")
	}
	return filled(t, "a b", there), there
}

// P14.2: a queue with 11 messages takes one more, one with 12 none, while another tag has room.
func TestPutFull(t *testing.T) {
	b, there := full(t, 11)
	wantHas(t, b, "a b", there, 20)
	wantPut(t, b, mail(21, "b"), api.OK)
	there += " 21b"
	wantHas(t, b, "a b", there, 21)
	for _, id := range []int{22, 23, 5000, math.MaxInt} {
		wantPut(t, b, mail(id, "b"), api.ErrBoxFull)
		wantHas(t, b, "a b", there, 21)
	}
	wantPut(t, b, mail(22, "a"), api.OK)
	wantPut(t, b, mail(23, "b"), api.ErrBoxFull)
	wantHas(t, b, "a b", there+" 22a", 22)
}

// P14.2: a full queue of each tag, of two and of all of them.
func TestPutFullEach(t *testing.T) {
	tags := []string{"a", "b", "c"}
	for fills := range 8 {
		d := newPair(t, tags...)
		for i := range 12 {
			for k, tag := range tags {
				if fills>>k&1 == 1 {
					d.put(t, mail(10*i+k, tag))
				}
			}
		}
		for k, tag := range tags {
			wanted := api.OK
			if fills>>k&1 == 1 {
				wanted = api.ErrBoxFull
			}
			if fault := d.put(t, mail(1000+k, tag)); fault != wanted {
				complain(t, "%b: Put of %q: %v; want %v", fills, tag, fault, wanted)
			}
		}
		d.want(t)
	}
}

// P14.2: where several errors apply, the ID's comes first, then the tag's.
func TestPutFaults(t *testing.T) {
	b, there := full(t, 12)
	for _, id := range []int{21, 20, 10, 1, 0, -1, math.MinInt} {
		wantPut(t, b, mail(id, "b"), api.ErrArg)
		wantPut(t, b, mail(id, noTag), api.ErrArg)
		wantPut(t, b, mail(id, "a"), api.ErrArg)
	}
	wantPut(t, b, mail(22, noTag), api.ErrNoTag)
	wantPut(t, b, mail(22, "b"), api.ErrBoxFull)
	wantHas(t, b, "a b", there, 21)

	none := made(t)
	wantPut(t, none, mail(5, ""), api.ErrNoTag)
	wantPut(t, none, mail(0, "a"), api.ErrNoTag)
	wantHas(t, none, "", "", -1)
}

// P14.2: the last number stays when its message is taken, in a mailbox that is empty then as in one that is not.
func TestLastStays(t *testing.T) {
	b := filled(t, "a b", "4b 6a")
	wantTake(t, b, mails("6a")...)
	wantHas(t, b, "a b", "4b", 6)
	for _, id := range []int{5, 6} {
		wantPut(t, b, mail(id, "a"), api.ErrArg)
		wantPut(t, b, mail(id, "b"), api.ErrArg)
	}
	wantTake(t, b, mails("4b")...)
	wantHas(t, b, "a b", "", 6)
	wantHas(t, b.Copy(), "a b", "", 6)
	wantPut(t, b, mail(4, "b"), api.ErrArg)
	wantPut(t, b, mail(6, "b"), api.ErrArg)
	wantPut(t, b, mail(7, "b"), api.OK)
	wantHas(t, b, "a b", "7b", 7)
}

// The chapter's examples, row by row.
func TestExamples(t *testing.T) {
	b := made(t, "a", "b")
	carries := func(id int, tag string, payload ...api.Value) api.Message {
		return api.Message{ID: id, Tag: tag, Payload: payload}
	}
	three, six, nine := carries(3, "a", whole(7)), carries(6, "b", said("x")), carries(9, "a", whole(8))
	wantPut(t, b, three, api.OK)
	wantPut(t, b, carries(3, "b"), api.ErrArg)
	wantPut(t, b, carries(5, "c"), api.ErrNoTag)
	wantPut(t, b, six, api.OK)
	wantPut(t, b, nine, api.OK)
	if b.Len("a") != 2 || !slices.Equal(b.Mask().Numbers(), []int{0, 1}) || b.Count() != 3 {
		t.Error("Len(a), Mask, Count:", b.Len("a"), b.Mask(), b.Count())
	}
	if tag, place, is := b.Find(9); tag != "a" || place != 1 || !is {
		t.Error("Find(9):", tag, place, is)
	}
	if m, is := b.At("a", 1); !is || !exactMessage(m, nine) {
		t.Error("At(a, 1):", m, is)
	}
	wantRefused(t, b, api.ErrQueueNone, 9, 4)
	wantRefused(t, b, api.ErrArg, 9, 9)
	wantTake(t, b, nine, three)
	if !slices.Equal(b.Mask().Numbers(), []int{1}) {
		t.Error("Mask:", b.Mask())
	}
	wantBox(t, b, []string{"a", "b"}, 9, six)

	twelve := made(t, "a", "b")
	for i := range 12 {
		wantPut(t, twelve, carries(i, "b"), api.OK)
	}
	wantPut(t, twelve, carries(12, "b"), api.ErrBoxFull)
	wantNoBox(t, "a", "a")
	wantBox(t, made(t), nil, -1)
}
