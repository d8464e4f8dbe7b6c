package bags_test

import (
	"fmt"
	"math"
	"slices"
	"strconv"
	"strings"
	"testing"
	"unicode"

	"chordmail/api"
	"chordmail/bags"
)

// complain tells what is wrong, shortened: some mailboxes hold many messages.
func complain(t *testing.T, format string, of ...any) {
	t.Helper()
	said := strings.ToValidUTF8(fmt.Sprintf(format, of...), "?")
	if len(said) > 600 {
		said = said[:600] + ".."
	}
	t.Error(said)
}

// noTag is a name that is none of any test's tags.
const noTag = "no such tag"

func whole(n int64) api.Value { return api.Value{Kind: api.Int, Int: n} }

func said(s string) api.Value { return api.Value{Kind: api.Text, Text: s} }

// mail is the message of that ID and tag that most tests put in: no two of them carry the same.
func mail(id int, tag string) api.Message {
	return api.Message{ID: id, Tag: tag, Payload: []api.Value{whole(int64(id)), said("of " + tag)}}
}

// mails are the messages of a text: "3a 6b" is one of the tag a with the ID 3, and one of b with the ID 6.
func mails(text string) []api.Message {
	var l []api.Message
	for _, word := range strings.Fields(text) {
		at := strings.IndexFunc(word, unicode.IsLetter)
		id, err := strconv.Atoi(word[:at])
		if err != nil {
			panic(err)
		}
		l = append(l, mail(id, word[at:]))
	}
	return l
}

// idsOf are the IDs of messages.
func idsOf(l []api.Message) []int {
	var ids []int
	for _, m := range l {
		ids = append(ids, m.ID)
	}
	return ids
}

// manyTags are so many names, unlike ones, that stand in no order.
func manyTags(many int) []string {
	var l []string
	for i := range many {
		l = append(l, fmt.Sprint("t", (i*37+11)%101))
	}
	return l
}

// sameReal holds reals against each other by their bits; all that is no number is alike.
func sameReal(a, b float64) bool {
	return math.IsNaN(a) && math.IsNaN(b) || math.Float64bits(a) == math.Float64bits(b)
}

// exactValue tells whether two values are the same in each field.
func exactValue(a, b api.Value) bool {
	return a.Kind == b.Kind && a.Int == b.Int && a.Text == b.Text && sameReal(a.Real, b.Real) && sameReal(real(a.Comp), real(b.Comp)) && sameReal(imag(a.Comp), imag(b.Comp))
}

func exactMessage(a, b api.Message) bool {
	return a.ID == b.ID && a.Tag == b.Tag && slices.EqualFunc(a.Payload, b.Payload, exactValue)
}

func exactMessages(a, b []api.Message) bool { return slices.EqualFunc(a, b, exactMessage) }

// spoil writes into all of an answer, the room behind its lists, too, and holds that no two of them share any.
func spoil(t *testing.T, l []api.Message) {
	t.Helper()
	for i, m := range l {
		all := m.Payload[:cap(m.Payload)]
		for k := range all {
			all[k] = whole(int64(-7 - i))
		}
	}
	for i, m := range l {
		for _, v := range m.Payload[:cap(m.Payload)] {
			if !exactValue(v, whole(int64(-7-i))) {
				complain(t, "the payload %d of an answer shares memory with another one", i)
			}
		}
	}
	for i := range l[:cap(l)] {
		l[:cap(l)][i] = mail(-7, "spoilt")
	}
}

// made is a new mailbox of these tags, which must be one.
func made(t *testing.T, tags ...string) *bags.Box {
	t.Helper()
	b, fault := bags.New(tags...)
	if fault != api.OK || b == nil {
		t.Fatalf("New(%q): %v, %v", tags, b, fault)
	}
	return b
}

// filled is a mailbox of these tags into which these messages were put.
func filled(t *testing.T, tags string, there string) *bags.Box {
	t.Helper()
	b := made(t, strings.Fields(tags)...)
	for _, m := range mails(there) {
		wantPut(t, b, m, api.OK)
	}
	return b
}

func wantPut(t *testing.T, b *bags.Box, m api.Message, wanted api.Errno) {
	t.Helper()
	if fault := b.Put(m); fault != wanted {
		complain(t, "Put(%d, %q): %v; want %v", m.ID, m.Tag, fault, wanted)
	}
}

// wantTake takes these messages, in this order, and holds that they are answered.
func wantTake(t *testing.T, b *bags.Box, wanted ...api.Message) {
	t.Helper()
	ids := idsOf(wanted)
	l, fault := b.Take(ids...)
	if fault != api.OK || !exactMessages(l, wanted) {
		complain(t, "Take(%v): %v, %v; want %v", ids, l, fault, wanted)
	}
	spoil(t, l)
}

// wantRefused holds that these are not taken, for this error.
func wantRefused(t *testing.T, b *bags.Box, wanted api.Errno, ids ...int) {
	t.Helper()
	if l, fault := b.Take(ids...); fault != wanted || len(l) != 0 {
		complain(t, "Take(%v): %v, %v; want %v", ids, l, fault, wanted)
	}
}

// wantHas holds all that a mailbox tells: these tags, these messages by rising IDs, this last number.
func wantHas(t *testing.T, b *bags.Box, tags, there string, last int) {
	t.Helper()
	wantBox(t, b, strings.Fields(tags), last, mails(there)...)
}

// wantBox is wantHas of any tags and messages. All lists that are told are written into: so it asks twice.
func wantBox(t *testing.T, b *bags.Box, tags []string, last int, there ...api.Message) {
	t.Helper()
	for range 2 {
		wantLists(t, b, tags, there)
		wantTags(t, b, tags, there)
		wantFound(t, b, there)
		wantLast(t, b, last)
	}
}

// wantLists holds Tags, All, Count and Mask.
func wantLists(t *testing.T, b *bags.Box, tags []string, there []api.Message) {
	t.Helper()
	told := b.Tags()
	if !slices.Equal(told, tags) {
		complain(t, "Tags: %q; want %q", told, tags)
	}
	for i := range told[:cap(told)] {
		told[:cap(told)][i] = "spoilt"
	}
	all := b.All()
	if !exactMessages(all, there) {
		complain(t, "All: %v; want %v", all, there)
	}
	spoil(t, all)
	if n := b.Count(); n != len(there) {
		complain(t, "Count: %d; want %d", n, len(there))
	}
	bits := uint64(0)
	for _, m := range there {
		bits |= 1 << slices.Index(tags, m.Tag)
	}
	if got := uint64(b.Mask()); got != bits {
		complain(t, "Mask: %b; want %b", got, bits)
	}
}

// wantTags holds Len and At of each tag, and of names that are none.
func wantTags(t *testing.T, b *bags.Box, tags []string, there []api.Message) {
	t.Helper()
	queues := map[string][]api.Message{}
	for _, m := range there {
		queues[m.Tag] = append(queues[m.Tag], m)
	}
	names := []string{noTag, "", "spoilt", "\x00", "B"}
	for _, tag := range tags {
		names = append(names, tag, tag+" ", "x"+tag)
	}
	for _, name := range names {
		queue := queues[name]
		if n := b.Len(name); n != len(queue) {
			complain(t, "Len(%q): %d; want %d", name, n, len(queue))
		}
		for i, m := range queue {
			got, is := b.At(name, i)
			if !is || !exactMessage(got, m) {
				complain(t, "At(%q, %d): %v, %v; want %v", name, i, got, is, m)
			}
			spoil(t, []api.Message{got})
		}
		n := len(queue)
		for _, i := range []int{n, n + 1, api.MaxPerTag, 1 << 32, math.MaxInt, -1, -n, -n - 1, math.MinInt} {
			if i >= 0 && i < n || i == 0 && n > 0 {
				continue
			}
			if got, is := b.At(name, i); is || !exactMessage(got, api.Message{}) {
				complain(t, "At(%q, %d): %v, %v; want none", name, i, got, is)
			}
		}
	}
}

// wantFound holds where messages are found, and that those beside them are not.
func wantFound(t *testing.T, b *bags.Box, there []api.Message) {
	t.Helper()
	asked := []int{math.MinInt, -1, 0, 1, math.MaxInt}
	tag, place := map[int]string{}, map[int]int{}
	many := map[string]int{}
	for _, m := range there {
		tag[m.ID], place[m.ID] = m.Tag, many[m.Tag]
		many[m.Tag]++
		asked = append(asked, m.ID-1, m.ID, m.ID+1, -m.ID, m.ID+1<<32)
	}
	for _, id := range asked {
		_, there := tag[id]
		if in, at, is := b.Find(id); in != tag[id] || at != place[id] || is != there {
			complain(t, "Find(%d): %q, %d, %v; want %q, %d, %v", id, in, at, is, tag[id], place[id], there)
		}
	}
}

// wantLast holds the last number: of a tag that there is not, an ID is refused for itself up to that number, behind it for the tag.
func wantLast(t *testing.T, b *bags.Box, last int) {
	t.Helper()
	wantPut(t, b, mail(last, noTag), api.ErrArg)
	if last < math.MaxInt {
		wantPut(t, b, mail(last+1, noTag), api.ErrNoTag)
	}
}

// wantTogether holds what P14.5 says, by the calls alone.
func wantTogether(t *testing.T, b *bags.Box) {
	t.Helper()
	all := b.All()
	sum, bits := 0, uint64(0)
	for i, tag := range b.Tags() {
		sum += b.Len(tag)
		if b.Len(tag) > 0 {
			bits |= 1 << i
		}
	}
	if b.Count() != len(all) || b.Count() != sum {
		complain(t, "Count: %d; All tells %d, the sum of Len is %d", b.Count(), len(all), sum)
	}
	if uint64(b.Mask()) != bits {
		complain(t, "Mask: %b; the tags of which there are some: %b", b.Mask(), bits)
	}
	for i, m := range all {
		if i > 0 && all[i-1].ID >= m.ID {
			complain(t, "All: %d behind %d", m.ID, all[i-1].ID)
		}
		tag, place, is := b.Find(m.ID)
		if !is || tag != m.Tag {
			complain(t, "Find(%d): %q, %v; want %q", m.ID, tag, is, m.Tag)
		}
		if got, is := b.At(tag, place); !is || !exactMessage(got, m) {
			complain(t, "At(%q, %d): %v, %v; want %v", tag, place, got, is, m)
		}
	}
}
