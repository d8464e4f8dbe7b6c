package wire

import (
	"bytes"
	"iter"

	"chordmail/api"
)

// ReadValue answers the value with whose form b begins, and how many bytes that has (P11.2).
func ReadValue(b []byte) (api.Value, int, api.Errno) {
	var v api.Value
	size, ok := valueSize(b), true
	if len(b) < size {
		goto wrong
	}
	v.Kind = int(b[0])
	switch v.Kind {
	case api.Int:
		v.Int = int64(number(b[1:size]))
	case api.Real:
		v.Real, ok = realOf([8]byte(b[1:size]))
	case api.Comp:
		v.Comp, ok = compOf([16]byte(b[1:size]))
	case api.Text:
		v.Text = string(b[3:size])
	}
	// What may not be has no form: so the bounds, and which kinds there are, are asked here alone.
	if !ok || !mayValue(v) {
		goto wrong
	}
	return v, size, api.OK
wrong:
	return api.Value{}, 0, api.ErrWire
}

// valueSize is how many bytes are wanted for a value's form that begins as b does; of a kind that there is not just its one.
func valueSize(b []byte) int {
	if len(b) == 0 {
		return 1
	}
	switch int(b[0]) {
	case api.Int, api.Real:
		return 1 + 8
	case api.Comp:
		return 1 + 16
	case api.Text:
		if len(b) < 3 {
			return 3
		}
		return 3 + int(number(b[1:3]))
	}
	return 1
}

// ReadPayload answers the payload with whose form b begins, and how many bytes that has (P11.2).
func ReadPayload(b []byte) ([]api.Value, int, api.Errno) {
	var l []api.Value
	at := 1
	if len(b) == 0 {
		goto wrong
	}
	for range b[0] {
		v, size, fault := ReadValue(b[at:])
		if fault != api.OK {
			goto wrong
		}
		l = append(l, v)
		at += size
	}
	if !mayPayload(l) {
		goto wrong
	}
	return l, at, api.OK
wrong:
	return nil, 0, api.ErrWire
}

// ReadMessage answers the message with whose form b begins, and how many bytes that has (P11.2).
func ReadMessage(b []byte) (api.Message, int, api.Errno) {
	var (
		m        api.Message
		at, size int
		fault    api.Errno
	)
	const tag = 4 + 1 // behind the ID and how many bytes the Tag has
	if len(b) < tag {
		goto wrong
	}
	at = tag + int(b[tag-1])
	if len(b) < at {
		goto wrong
	}
	m.ID, m.Tag = int(number(b[:4])), string(b[tag:at])
	m.Payload, size, fault = ReadPayload(b[at:])
	if fault != api.OK || !mayMessage(m) {
		goto wrong
	}
	return m, at + size, api.OK
wrong:
	return api.Message{}, 0, api.ErrWire
}

// Rows goes over the messages whose forms stand one behind the other at the beginning of b, each with the place behind it (P11.3).
func Rows(b []byte) iter.Seq2[api.Message, int] {
	// The sequence outlives this call, and what is handed in is not kept: so it goes over a copy.
	kept := bytes.Clone(b)
	return func(yield func(api.Message, int) bool) {
		for at := 0; ; {
			m, size, fault := ReadMessage(kept[at:])
			if fault != api.OK {
				return
			}
			at += size
			if !yield(m, at) {
				return
			}
		}
	}
}
