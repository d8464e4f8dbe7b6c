package bags_test

import (
	"fmt"
	"math"
	"runtime"
	"slices"
	"strings"
	"sync"
	"testing"
	"unsafe"
	"weak"

	"chordmail/api"
	"chordmail/bags"
)

// P14.6: the names that are handed to New are the same behind the call, what is behind the list's end, too; and are not kept.
func TestNamesHandedIn(t *testing.T) {
	for _, names := range [][]string{{"c", "a", "b"}, {"c", "a", "c"}, {"a", "a", "b"}, {}} {
		list := append(slices.Clone(names), "behind", "the end")
		b, fault := bags.New(list[:len(names)]...)
		if !slices.Equal(list, append(slices.Clone(names), "behind", "the end")) {
			t.Errorf("New changes the names %q: %q", names, list)
		}
		for i := range list {
			list[i] = noTag
		}
		if fault == api.OK {
			wantBox(t, b, names, -1)
		}
	}
	list := []string{"c", "a"}
	b := made(t, list...)
	list[0], list[1] = "a", "c"
	wantPut(t, b, mail(1, "a"), api.OK)
	list[0], list[1] = noTag, noTag
	wantBox(t, b, []string{"c", "a"}, 1, mail(1, "a"))
	wantBox(t, b.Copy(), []string{"c", "a"}, 1, mail(1, "a"))
}

// P14.6: the IDs that are handed to Take are the same behind the call, what is behind the list's end, too; and are not kept.
func TestIDsHandedIn(t *testing.T) {
	for _, c := range []struct {
		ids    []int
		wanted api.Errno
		left   string
	}{
		{[]int{9, 3, 5}, api.OK, "4b"},
		{[]int{9, 3, 9}, api.ErrArg, "3a 4b 5a 9b"},
		{[]int{9, 3, 8}, api.ErrQueueNone, "3a 4b 5a 9b"},
	} {
		b := filled(t, "a b", "3a 4b 5a 9b")
		list := append(slices.Clone(c.ids), 4, -1)
		l, fault := b.Take(list[:len(c.ids)]...)
		if fault != c.wanted || !slices.Equal(list, append(slices.Clone(c.ids), 4, -1)) {
			t.Errorf("Take(%v): %v, and the list is %v", c.ids, fault, list)
		}
		for i := range list {
			list[i] = 4
		}
		if fault == api.OK && !slices.Equal(idsOf(l), c.ids) {
			t.Errorf("Take(%v), the list written into: %v", c.ids, idsOf(l))
		}
		wantHas(t, b, "a b", c.left, 9)
	}
}

// P14.6: a payload that is handed to Put is the same behind the call, what is behind the list's end, too; and is not kept.
func TestPayloadsHandedIn(t *testing.T) {
	for _, c := range []struct {
		id     int
		tag    string
		wanted api.Errno
	}{{5, "a", api.OK}, {4, "a", api.ErrArg}, {5, noTag, api.ErrNoTag}, {22, "b", api.ErrBoxFull}} {
		for many := range 4 {
			b, there := filled(t, "a b", "4b"), mails("4b")
			if c.wanted == api.ErrBoxFull {
				full, text := full(t, 12)
				b, there = full, mails(text)
			}
			values := []api.Value{whole(7), said("x"), whole(9), said("behind"), whole(11)}
			list := slices.Clone(values)
			m := api.Message{ID: c.id, Tag: c.tag, Payload: list[:many]}
			wantPut(t, b, m, c.wanted)
			if !slices.EqualFunc(list, values, exactValue) {
				t.Errorf("Put changes the payload: %v", list)
			}
			for i := range list {
				list[i] = said("over")
			}
			last := there[len(there)-1].ID
			if c.wanted == api.OK {
				last = c.id
				there = append(there, api.Message{ID: c.id, Tag: c.tag, Payload: values[:many]})
			}
			wantBox(t, b, []string{"a", "b"}, last, there...)
			wantBox(t, b.Copy(), []string{"a", "b"}, last, there...)
		}
	}
}

// P14.6: one payload that is handed in with two messages, and two that share memory, are apart in the mailbox.
func TestPayloadsShared(t *testing.T) {
	list := []api.Value{whole(1), said("x"), whole(3)}
	b := made(t, "a", "b")
	wantPut(t, b, api.Message{ID: 1, Tag: "a", Payload: list}, api.OK)
	wantPut(t, b, api.Message{ID: 2, Tag: "a", Payload: list}, api.OK)
	wantPut(t, b, api.Message{ID: 3, Tag: "b", Payload: list[:2]}, api.OK)
	spoil(t, b.All())
	for id, tag := range map[int]string{1: "a", 2: "a", 3: "b"} {
		m, _ := b.At(tag, (id-1)%2)
		m.Payload[0] = whole(-9)
	}
	wanted := []api.Message{{ID: 1, Tag: "a", Payload: list}, {ID: 2, Tag: "a", Payload: list}, {ID: 3, Tag: "b", Payload: list[:2]}}
	wantBox(t, b, []string{"a", "b"}, 3, wanted...)
}

// P14.6: what is told is new memory each time: what is written into it changes neither the mailbox, nor its copy, nor what was told ahead.
func TestTold(t *testing.T) {
	there := "1a 2b 3a 5b"
	b := filled(t, "a b", there)
	c := b.Copy()
	all := b.All()
	first, _ := b.At("a", 0)
	again, _ := b.At("a", 0)
	other, _ := c.At("a", 0)
	tags := b.Tags()
	spoil(t, append(b.All(), first))
	spoil(t, c.All())
	if !exactMessages(all, mails(there)) || !exactMessage(again, mail(1, "a")) || !exactMessage(other, mail(1, "a")) {
		t.Error("what was told ahead is changed:", all, again, other)
	}
	c.Tags()[0] = "spoilt"
	b.Tags()[1] = "spoilt"
	if !slices.Equal(tags, []string{"a", "b"}) {
		t.Error("Tags told ahead are changed:", tags)
	}
	wantHas(t, b, "a b", there, 5)
	wantHas(t, c, "a b", there, 5)
}

// P14.6: what Take answers is apart from the mailbox's copy, which still has it, and from what was told ahead.
func TestTaken(t *testing.T) {
	for _, taken := range []string{"3a", "5b 1a", "1a 2b 3a 5b"} {
		there := "1a 2b 3a 5b"
		b := filled(t, "a b", there)
		c := b.Copy()
		all := b.All()
		wantTake(t, b, mails(taken)...)
		wantHas(t, c, "a b", there, 5)
		d := c.Copy()
		wantTake(t, c, mails(taken)...)
		wantHas(t, d, "a b", there, 5)
		wantHas(t, b, "a b", without(there, taken), 5)
		wantHas(t, c, "a b", without(there, taken), 5)
		if !exactMessages(all, mails(there)) {
			t.Errorf("All, told ahead: %v", all)
		}
	}
}

// P14.4: payloads of any values, as many as there are, with none, and with what may not be elsewhere.
func TestPayloads(t *testing.T) {
	real, comp := api.Value{Kind: api.Real}, api.Value{Kind: api.Comp}
	var l []api.Value
	for _, f := range []float64{0, math.Copysign(0, -1), 0.1, math.Inf(-1), math.NaN(), math.MaxFloat64} {
		real.Real, comp.Comp = f, complex(f, -f)
		l = append(l, real, comp)
		comp.Comp = complex(1, f)
		l = append(l, comp)
	}
	for _, text := range []string{"", "x", "\x00\xff\n", strings.Repeat("y", 256), strings.Repeat("z", 5000)} {
		l = append(l, said(text))
	}
	for _, n := range []int64{0, 1, 2, -1, math.MaxInt64, math.MinInt64} {
		l = append(l, whole(n), api.Value{Kind: api.Bool, Int: n})
	}
	for _, kind := range []int{0, 6, -1, math.MaxInt, math.MinInt} {
		l = append(l, api.Value{Kind: kind})
	}
	d := newPair(t, "a", "b")
	d.put(t, api.Message{ID: 0, Tag: "a"})
	d.put(t, api.Message{ID: 1, Tag: "a", Payload: []api.Value{}})
	d.put(t, api.Message{ID: 2, Tag: "a", Payload: l})
	for i, v := range l {
		d.put(t, api.Message{ID: 3 + i, Tag: "b", Payload: []api.Value{v}})
		d.put(t, api.Message{ID: 1000*i + 1000, Tag: "b", Payload: []api.Value{v, whole(1), v}})
		d.want(t)
		d.take(t, idsOf(d.p.of("b"))...)
	}
	d.take(t, 2, 0, 1)
}

// P0.2: of each value the field alone is told that its Kind names; the others are zero, whatever was handed in.
func TestPlain(t *testing.T) {
	junk := func(kind int) api.Value {
		return api.Value{Kind: kind, Int: 1, Real: 2.5, Comp: 3 + 4i, Text: "five"}
	}
	b := made(t, "a")
	wantPut(t, b, api.Message{Tag: "a", Payload: []api.Value{junk(1), junk(2), junk(3), junk(4), junk(5), junk(0), junk(6), junk(-1)}}, api.OK)
	plain := []api.Value{{Kind: 1, Int: 1}, {Kind: 2, Real: 2.5}, {Kind: 3, Comp: 3 + 4i}, {Kind: 4, Text: "five"}, {Kind: 5, Int: 1}, {}, {Kind: 6}, {Kind: -1}}
	wanted := api.Message{Tag: "a", Payload: plain}
	wantBox(t, b, []string{"a"}, 0, wanted)
	wantTake(t, b, wanted)
}

// held is a list that is apart from all other memory, and a weak pointer to it.
func held[T any](values ...T) ([]T, weak.Pointer[[64]T]) {
	list := new([64]T)
	copy(list[:], values)
	return list[:len(values)], weak.Make(list)
}

// P14.6: neither a mailbox nor anything else keeps a list that was handed in, refused or not, with values or without.
func TestNotKept(t *testing.T) {
	for many := range 4 {
		names, weakNames := held([]string{"a", "b", "c"}[:many]...)
		alike, weakAlike := held([]string{"a", "a", "b", "b", "c"}[:many+2]...)
		first := made(t, names...)
		wantNoBox(t, alike...)
		b := made(t, "a", "b")
		var payloads []weak.Pointer[[64]api.Value]
		for i := range 15 {
			payload, weakPayload := held([]api.Value{whole(1), said("x"), whole(3)}[:many]...)
			b.Put(api.Message{ID: i, Tag: []string{"a", noTag}[i/14], Payload: payload})
			payloads = append(payloads, weakPayload)
		}
		ids, weakIDs := held([]int{3, 9, 5}[:many]...)
		twice, weakTwice := held([]int{3, 3, 9, 5, 7}[:many+2]...)
		none, weakNone := held([]int{3, 99, 9, 5, 7}[:many+2]...)
		wantRefused(t, b, api.ErrArg, twice...)
		wantRefused(t, b, api.ErrQueueNone, none...)
		if l, fault := b.Take(ids...); len(l) != many || fault != api.OK {
			complain(t, "Take(%v): %v, %v", ids, l, fault)
		}
		c := b.Copy()
		runtime.GC()
		if weakNames.Value() != nil || weakAlike.Value() != nil {
			t.Error(many, "names are kept")
		}
		if weakIDs.Value() != nil || weakTwice.Value() != nil || weakNone.Value() != nil {
			t.Error(many, "IDs are kept")
		}
		for i, p := range payloads {
			if p.Value() != nil {
				t.Error(many, "a payload is kept:", i)
			}
		}
		for _, b := range []*bags.Box{first, b, c} {
			runtime.KeepAlive(b)
		}
	}
}

// apart is a text that stands at the beginning of memory of its own, and a weak pointer to that.
func apart(text string) (string, weak.Pointer[[512]byte]) {
	bytes := new([512]byte)
	copy(bytes[:], text)
	return unsafe.String(&bytes[0], len(text)), weak.Make(bytes)
}

// P14.6: nor is a text kept that was handed in, as a name or in a payload: it may be a small piece of a great one.
func TestTextsNotKept(t *testing.T) {
	texts := map[string]weak.Pointer[[512]byte]{}
	handed := func(use, text string) string {
		s, w := apart(text)
		texts[use] = w
		return s
	}
	b := made(t, handed("New's first", "a"), handed("New's second", "b"))
	long := strings.Repeat("x", 300)
	wantPut(t, b, api.Message{ID: 1, Tag: handed("Put's tag", "a"), Payload: []api.Value{said(handed("Put's text", "x")), said(handed("Put's long text", long))}}, api.OK)
	wantPut(t, b, api.Message{ID: 2, Tag: handed("Put's unknown tag", noTag)}, api.ErrNoTag)
	b.Len(handed("Len's tag", "a"))
	m, _ := b.At(handed("At's tag", "a"), 0)
	bags.New(handed("New's alike", "c"), "c")
	runtime.GC()
	for use, w := range texts {
		if w.Value() != nil {
			t.Error("kept:", use)
		}
	}
	wanted := api.Message{ID: 1, Tag: "a", Payload: []api.Value{said("x"), said(long)}}
	if !exactMessage(m, wanted) {
		t.Error("At:", m)
	}
	wantBox(t, b, []string{"a", "b"}, 1, wanted)
}

// P14.6: nor do two texts that are told share memory with one another, of one message that is told twice, or by a copy, neither.
func TestTextsApart(t *testing.T) {
	b := made(t, "a")
	text := strings.Repeat("x", 100)
	wantPut(t, b, api.Message{ID: 1, Tag: "a", Payload: []api.Value{said(text), said(text)}}, api.OK)
	c := b.Copy()
	first, _ := b.At("a", 0)
	second, _ := c.At("a", 0)
	all := append(b.All(), first, second)
	for _, b := range []*bags.Box{b, c} {
		taken, _ := b.Take(1)
		all = append(all, taken...)
	}
	seen := map[*byte]bool{unsafe.StringData(text): true}
	for i, m := range all {
		for _, v := range m.Payload {
			if at := unsafe.StringData(v.Text); v.Text != text || seen[at] {
				t.Errorf("a text of the answer %d, %q, shares memory: %v", i, v.Text, seen[at])
			} else {
				seen[at] = true
			}
		}
	}
}

// inUse is how much memory is.
func inUse() uint64 {
	runtime.GC()
	var s runtime.MemStats
	runtime.ReadMemStats(&s)
	return s.HeapAlloc
}

// P0.4: what was taken, refused or told is not kept, by the mailbox or by a copy of it that has taken it, too.
func TestTakenNotKept(t *testing.T) {
	text := strings.Repeat("x", 1<<20)
	m := func(id int, tag string) api.Message {
		return api.Message{ID: id, Tag: tag, Payload: []api.Value{said(text)}}
	}
	b := made(t, "a", "b")
	var copies []*bags.Box
	before := inUse()
	for i := range 32 {
		for k := range 3 {
			wantPut(t, b, m(3*i+k, "a"), api.OK)
		}
		wantPut(t, b, m(3*i+3, noTag), api.ErrNoTag)
		c := b.Copy()
		copies = append(copies, c)
		b.At("a", 0)
		b.Take(3*i+1, 3*i)
		c.Take(idsOf(c.All())...)
		if i%4 == 3 {
			b.Take(idsOf(b.All())...)
		}
		if b.Count() != (i+1)%4 || c.Count() != 0 {
			t.Error(i, b.Count(), c.Count())
		}
	}
	if more := int64(inUse() - before); more > 16<<20 {
		t.Errorf("%d more bytes are in use", more)
	}
	runtime.KeepAlive(b)
	runtime.KeepAlive(copies)
}

// P14.4: mailboxes beside one another, and questions of one mailbox beside one another, answer what each would answer alone.
func TestBeside(t *testing.T) {
	there := "1a 2b 3a 5b 6c"
	shared := filled(t, "a b c d", there)
	var group sync.WaitGroup
	for by := range 8 {
		group.Go(func() {
			for range 20 {
				// Not wantLast, which calls Put.
				wantLists(t, shared, []string{"a", "b", "c", "d"}, mails(there))
				wantTags(t, shared, []string{"a", "b", "c", "d"}, mails(there))
				wantFound(t, shared, mails(there))
				own := shared.Copy()
				wantTake(t, own, mails("5b 1a")...)
				wantPut(t, own, mail(100+by, "d"), api.OK)
				wantHas(t, own, "a b c d", fmt.Sprint("2b 3a 6c ", 100+by, "d"), 100+by)
			}
		})
	}
	group.Wait()
	wantHas(t, shared, "a b c d", there, 6)
}
