package decl

import "chordmail/api"

func (r *reader) program() api.Program {
	var p api.Program
	for r.at < len(r.tokens) {
		if r.took("tag") {
			p.Tags = append(p.Tags, r.tag())
		} else {
			r.want("kind")
			p.Kinds = append(p.Kinds, r.kind())
		}
	}
	return p
}

// tag reads a tag behind its keyword.
func (r *reader) tag() api.Tag {
	t := api.Tag{Name: r.word()}
	t.Types = listed(r, r.field)
	r.want(";")
	return t
}

// kind reads a kind behind its keyword.
func (r *reader) kind() api.Kind {
	k := api.Kind{Name: r.word()}
	r.want("{")
	for !r.took("}") {
		k.Chords = append(k.Chords, r.chord())
	}
	return k
}

func (r *reader) chord() api.Chord {
	r.want("chord")
	c := api.Chord{Name: r.word()}
	r.want(":")
	c.Parts = append(c.Parts, r.part())
	for r.took("&") {
		c.Parts = append(c.Parts, r.part())
	}
	if r.took("when") {
		c.Guard = r.expression()
	}
	c.Body = r.body()
	return c
}

func (r *reader) part() api.Part {
	p := api.Part{Tag: r.word()}
	p.Vars = listed(r, r.variable)
	return p
}

func (r *reader) body() []api.Act {
	r.want("{")
	var l []api.Act
acts:
	for {
		var a api.Act
		switch {
		case r.took("send"):
			a = r.send()
		case r.took("spawn"):
			a = r.spawn()
		case r.took("reply"):
			a = api.Act{Kind: api.ActReply, Args: listed(r, r.expression)}
		case r.took("become"):
			a = api.Act{Kind: api.ActBecome, Name: r.word()}
		default:
			break acts
		}
		r.want(";")
		l = append(l, a)
	}
	r.want("}")
	return l
}

// send reads a send behind its keyword.
func (r *reader) send() api.Act {
	a := api.Act{Kind: api.ActSend}
	a.To = r.expression()
	a.Name = r.word()
	a.Args = listed(r, r.expression)
	return a
}

// spawn reads a spawn behind its keyword.
func (r *reader) spawn() api.Act {
	a := api.Act{Kind: api.ActSpawn, Name: r.word()}
	r.want("as")
	a.Var = r.word()
	return a
}
