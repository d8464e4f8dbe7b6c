package bags_test

import (
	"fmt"
	"slices"
	"testing"

	"chordmail/api"
	"chordmail/bags"
)

// paper is a plain reference: it writes down all messages that are ever put in, line by line, and strikes out what is taken. Each question is answered by going over all lines.
type paper struct {
	tags   []string
	lines  []api.Message
	struck []bool
}

func (p *paper) there() []api.Message {
	var l []api.Message
	for i, m := range p.lines {
		if !p.struck[i] {
			l = append(l, m)
		}
	}
	return l
}

func (p *paper) of(tag string) []api.Message {
	return slices.DeleteFunc(p.there(), func(m api.Message) bool { return m.Tag != tag })
}

func (p *paper) last() int {
	last := -1
	for _, m := range p.lines {
		last = max(last, m.ID)
	}
	return last
}

func (p *paper) put(m api.Message) api.Errno {
	switch {
	case m.ID < 0 || slices.ContainsFunc(p.lines, func(o api.Message) bool { return o.ID >= m.ID }):
		return api.ErrArg
	case !slices.Contains(p.tags, m.Tag):
		return api.ErrNoTag
	case len(p.of(m.Tag)) == 12:
		return api.ErrBoxFull
	}
	p.lines = append(p.lines, m)
	p.struck = append(p.struck, false)
	return api.OK
}

func (p *paper) take(ids []int) ([]api.Message, api.Errno) {
	for i, id := range ids {
		if slices.Contains(ids[:i], id) {
			return nil, api.ErrArg
		}
	}
	for _, id := range ids {
		if !slices.Contains(idsOf(p.there()), id) {
			return nil, api.ErrQueueNone
		}
	}
	var taken []api.Message
	for _, id := range ids {
		line := slices.IndexFunc(p.lines, func(m api.Message) bool { return m.ID == id })
		p.struck[line] = true
		taken = append(taken, p.lines[line])
	}
	return taken, api.OK
}

func (p *paper) copied() *paper {
	return &paper{p.tags, slices.Clone(p.lines), slices.Clone(p.struck)}
}

// pair is a mailbox and the reference of it: each call goes to both.
type pair struct {
	b *bags.Box
	p *paper
}

func newPair(t *testing.T, tags ...string) pair {
	t.Helper()
	return pair{made(t, tags...), &paper{tags: slices.Clone(tags)}}
}

func (d pair) copied() pair { return pair{d.b.Copy(), d.p.copied()} }

// put puts a message into both. The mailbox is handed lists of its own, in which the fields that a Kind does not name are not zero, and which are written into behind the call.
func (d pair) put(t *testing.T, m api.Message) api.Errno {
	t.Helper()
	handed := junked(m)
	fault, wanted := d.b.Put(handed), d.p.put(m)
	if fault != wanted {
		complain(t, "Put(%d, %q): %v; want %v", m.ID, m.Tag, fault, wanted)
	}
	if !exactMessage(handed, junked(m)) {
		complain(t, "Put(%d, %q) changes what is handed in", m.ID, m.Tag)
	}
	spoil(t, []api.Message{handed})
	return wanted
}

func (d pair) take(t *testing.T, ids ...int) api.Errno {
	t.Helper()
	handed := slices.Clone(ids)
	l, fault := d.b.Take(handed...)
	taken, wanted := d.p.take(ids)
	if fault != wanted || !exactMessages(l, taken) {
		complain(t, "Take(%v): %v, %v; want %v, %v", ids, l, fault, taken, wanted)
	}
	if !slices.Equal(handed, ids) {
		complain(t, "Take(%v) changes what is handed in: %v", ids, handed)
	}
	spoil(t, l)
	return wanted
}

// want holds all that the mailbox tells against the reference, and what follows of it.
func (d pair) want(t *testing.T) {
	t.Helper()
	wantBox(t, d.b, d.p.tags, d.p.last(), d.p.there()...)
	wantTogether(t, d.b)
}

// junked is a message with the same values, in which the fields that a value's Kind does not name say something.
func junked(m api.Message) api.Message {
	var l []api.Value
	for _, v := range m.Payload {
		junk := api.Value{Kind: v.Kind, Int: 77, Real: 7.7, Comp: 7 + 7i, Text: "junk"}
		switch v.Kind {
		case 1, 5:
			junk.Int = v.Int
		case 2:
			junk.Real = v.Real
		case 3:
			junk.Comp = v.Comp
		case 4:
			junk.Text = v.Text
		}
		l = append(l, junk)
	}
	m.Payload = l
	return m
}

// The reference itself, against answers written by hand: where it went wrong, what is held against it would too.
func TestReference(t *testing.T) {
	p := &paper{tags: []string{"a", "b"}}
	said := ""
	for _, m := range mails("3a 3b 5c 6b 9a 9c 8c 10a") {
		said += fmt.Sprint(int(p.put(m)), " ")
	}
	said += fmt.Sprint(int(p.put(mail(-1, "a"))), " ")
	for _, ids := range [][]int{{9, 4}, {9, 9}, {4, 4}, {9, 3}, {3}, {}, {10}} {
		l, fault := p.take(ids)
		said += fmt.Sprint(int(fault), idsOf(l), " ")
	}
	said += fmt.Sprint(idsOf(p.there()), idsOf(p.of("a")), idsOf(p.of("b")), p.last(), " ")
	for i := range 13 {
		said += fmt.Sprint(int(p.put(mail(20+i, "a"))), " ")
	}
	said += fmt.Sprint(int(p.put(mail(40, "b"))), len(p.there()), p.last())
	wanted := "0 2 141 0 0 2 2 0 2 121 [] 2 [] 2 [] 0 [9 3] 121 [] 0 [] 0 [10] [6] [] [6] 10 0 0 0 0 0 0 0 0 0 0 0 0 140 0 14 40"
	if said != wanted {
		t.Errorf("%s; want %s", said, wanted)
	}
}
