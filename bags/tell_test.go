package bags_test

import (
	"fmt"
	"math"
	"slices"
	"testing"

	"chordmail/api"
	"chordmail/bags"
)

// P14.4: Len of each tag, of one without a message, of a name that is no tag.
func TestLen(t *testing.T) {
	b := filled(t, "a b c", "2a 3b 5a 6a 7b")
	for name, wanted := range map[string]int{"a": 3, "b": 2, "c": 0, noTag: 0, "": 0, "A": 0, "ab": 0} {
		if n := b.Len(name); n != wanted {
			t.Errorf("Len(%q): %d; want %d", name, n, wanted)
		}
	}
}

// P14.4: At of each place, and of those beside and far away.
func TestAt(t *testing.T) {
	b := filled(t, "a b c", "2a 3b 5a 6a 7b")
	for _, asked := range []struct {
		tag    string
		place  int
		wanted string
	}{
		{"a", 0, "2a"}, {"a", 1, "5a"}, {"a", 2, "6a"}, {"b", 0, "3b"}, {"b", 1, "7b"},
		{"a", 3, ""}, {"a", -1, ""}, {"a", math.MaxInt, ""}, {"a", math.MinInt, ""}, {"a", 12, ""}, {"a", 1 << 32, ""},
		{"b", 2, ""}, {"b", -1, ""}, {"b", math.MaxInt, ""}, {"b", math.MinInt, ""},
		{"c", 0, ""}, {"c", -1, ""}, {"c", 1, ""}, {"c", math.MaxInt, ""}, {"c", math.MinInt, ""},
		{noTag, 0, ""}, {noTag, -1, ""}, {noTag, 1, ""}, {"", 0, ""}, {noTag, math.MaxInt, ""}, {noTag, math.MinInt, ""},
	} {
		m, is := b.At(asked.tag, asked.place)
		wanted := append(mails(asked.wanted), api.Message{})[0]
		if is != (asked.wanted != "") || !exactMessage(m, wanted) {
			t.Errorf("At(%q, %d): %v, %v; want %q", asked.tag, asked.place, m, is, asked.wanted)
		}
	}
}

// P14.4: Find of each message, and of IDs that are not there.
func TestFind(t *testing.T) {
	b := filled(t, "a b c", "0c 2a 3b 5a 6a 7b 8a")
	wantTake(t, b, mails("5a")...)
	for _, asked := range []struct {
		id    int
		tag   string
		place int
	}{{0, "c", 0}, {2, "a", 0}, {3, "b", 0}, {6, "a", 1}, {7, "b", 1}, {8, "a", 2}} {
		if tag, place, is := b.Find(asked.id); tag != asked.tag || place != asked.place || !is {
			t.Errorf("Find(%d): %q, %d, %v; want %q, %d", asked.id, tag, place, is, asked.tag, asked.place)
		}
	}
	for _, id := range []int{1, 4, 5, 9, -1, -2, 1 << 32, math.MaxInt, math.MinInt} {
		if tag, place, is := b.Find(id); tag != "" || place != 0 || is {
			t.Errorf("Find(%d): %q, %d, %v; want none", id, tag, place, is)
		}
	}
}

// P14.4: a message of the empty name is found, with that name.
func TestFindEmptyName(t *testing.T) {
	b := made(t, "a", "")
	wantPut(t, b, mail(0, ""), api.OK)
	wantPut(t, b, mail(4, ""), api.OK)
	if tag, place, is := b.Find(4); tag != "" || place != 1 || !is {
		t.Errorf("Find(4): %q, %d, %v", tag, place, is)
	}
	wantBox(t, b, []string{"a", ""}, 4, mail(0, ""), mail(4, ""))
}

// P14.4: Count, Mask, Tags and All behind each call, written out.
func TestBehindEach(t *testing.T) {
	b := made(t, "a", "b", "c")
	want := func(count int, bits uint64, ids ...int) {
		t.Helper()
		if all := idsOf(b.All()); b.Count() != count || uint64(b.Mask()) != bits || !slices.Equal(all, ids) || !slices.Equal(b.Tags(), []string{"a", "b", "c"}) {
			t.Errorf("Count %d, Mask %b, All %v, Tags %q; want %d, %b, %v", b.Count(), b.Mask(), all, b.Tags(), count, bits, ids)
		}
	}
	want(0, 0b000)
	wantPut(t, b, mail(1, "c"), api.OK)
	want(1, 0b100, 1)
	wantPut(t, b, mail(2, "a"), api.OK)
	want(2, 0b101, 1, 2)
	wantPut(t, b, mail(3, "c"), api.OK)
	want(3, 0b101, 1, 2, 3)
	wantPut(t, b, mail(4, "b"), api.OK)
	want(4, 0b111, 1, 2, 3, 4)
	wantPut(t, b, mail(5, "a"), api.OK)
	want(5, 0b111, 1, 2, 3, 4, 5)
	wantPut(t, b, mail(6, "d"), api.ErrNoTag)
	want(5, 0b111, 1, 2, 3, 4, 5)
	wantTake(t, b, mails("3c")...)
	want(4, 0b111, 1, 2, 4, 5)
	wantRefused(t, b, api.ErrQueueNone, 1, 3)
	want(4, 0b111, 1, 2, 4, 5)
	wantTake(t, b, mails("1c")...)
	want(3, 0b011, 2, 4, 5)
	wantTake(t, b, mails("5a 2a")...)
	want(1, 0b010, 4)
	wantPut(t, b, mail(6, "a"), api.OK)
	want(2, 0b011, 4, 6)
	wantTake(t, b, mails("6a 4b")...)
	want(0, 0b000)
}

// P14.4: a copy of an empty mailbox, of one with messages, of one of which some were taken; calls of either leave the other as it was.
func TestCopy(t *testing.T) {
	for _, c := range []struct{ put, taken, left string }{
		{"", "", ""},
		{"3a", "", "3a"},
		{"3a", "3a", ""},
		{"1a 2b 3a 5b", "", "1a 2b 3a 5b"},
		{"1a 2b 3a 5b", "2b", "1a 3a 5b"},
		{"1a 2b 3a 5b", "5b 1a", "2b 3a"},
		{"1a 2b 3a 5b", "5b 1a 2b 3a", ""},
	} {
		b := filled(t, "a b", c.put)
		wantTake(t, b, mails(c.taken)...)
		last := -1
		for _, m := range mails(c.put) {
			last = m.ID
		}
		one, two := b.Copy(), b.Copy()
		for _, b := range []*bags.Box{b, one, two, two.Copy()} {
			wantHas(t, b, "a b", c.left, last)
		}
		wantPut(t, one, mail(last+1, "b"), api.OK)
		wantTake(t, two, mails(c.left)...)
		wantHas(t, b, "a b", c.left, last)
		wantPut(t, b, mail(last+7, "a"), api.OK)
		wantHas(t, one, "a b", fmt.Sprint(c.left, " ", last+1, "b"), last+1)
		wantHas(t, two, "a b", "", last)
		wantHas(t, b, "a b", fmt.Sprint(c.left, " ", last+7, "a"), last+7)
	}
}

// P14.4: a copy of a full mailbox is full, and has room where its own messages are taken.
func TestCopyFull(t *testing.T) {
	b, there := full(t, 12)
	c := b.Copy()
	wantPut(t, c, mail(30, "b"), api.ErrBoxFull)
	wantTake(t, c, mails("14b")...)
	wantPut(t, c, mail(30, "b"), api.OK)
	wantPut(t, b, mail(30, "b"), api.ErrBoxFull)
	wantHas(t, b, "a b", there, 21)
	wantHas(t, c, "a b", without(there, "14b")+" 30b", 30)
}

// P14.2 to P14.4: the calls of a nil mailbox.
func TestNil(t *testing.T) {
	var b *bags.Box
	for _, m := range []api.Message{{}, mail(1, "a"), mail(-1, ""), mail(math.MaxInt, "a")} {
		wantPut(t, b, m, api.ErrNil)
	}
	for _, ids := range [][]int{nil, {}, {1}, {1, 1}, {-1}} {
		wantRefused(t, b, api.ErrNil, ids...)
	}
	for _, tag := range []string{"", "a", noTag} {
		if n := b.Len(tag); n != 0 {
			t.Errorf("Len(%q): %d", tag, n)
		}
		for _, place := range []int{0, 1, -1, math.MaxInt, math.MinInt} {
			if m, is := b.At(tag, place); is || !exactMessage(m, api.Message{}) {
				t.Errorf("At(%q, %d): %v, %v", tag, place, m, is)
			}
		}
	}
	for _, id := range []int{0, 1, -1, math.MaxInt, math.MinInt} {
		if tag, place, is := b.Find(id); tag != "" || place != 0 || is {
			t.Errorf("Find(%d): %q, %d, %v", id, tag, place, is)
		}
	}
	if b.Count() != 0 || b.Mask() != 0 || len(b.Tags()) != 0 || len(b.All()) != 0 || b.Copy() != nil {
		t.Error("Count, Mask, Tags, All, Copy:", b.Count(), b.Mask(), b.Tags(), b.All(), b.Copy())
	}
}

// P0.1: a mailbox that New did not make is one without tags.
func TestZero(t *testing.T) {
	for _, b := range []*bags.Box{{}, new(bags.Box).Copy()} {
		wantBox(t, b, nil, -1)
		wantRefused(t, b, api.ErrQueueNone, 0)
		wantRefused(t, b, api.ErrArg, 0, 0)
		wantTake(t, b)
	}
}
