package bags

import (
	"slices"
	"strings"

	"chordmail/api"
)

// copied is a message of its own that says the same, of each value by the field alone that its Kind names. Whatever is put in or told is copied: so nothing that a mailbox or its copies keep can be written into.
func copied(m api.Message) api.Message {
	payload := slices.Clone(m.Payload)
	for i, v := range payload {
		payload[i] = plain(v)
	}
	return api.Message{ID: m.ID, Tag: strings.Clone(m.Tag), Payload: payload}
}

func plain(v api.Value) api.Value {
	p := api.Value{Kind: v.Kind}
	switch v.Kind {
	case api.Int, api.Bool:
		p.Int = v.Int
	case api.Real:
		p.Real = v.Real
	case api.Comp:
		p.Comp = v.Comp
	case api.Text:
		p.Text = strings.Clone(v.Text)
	}
	return p
}
