package print

import (
	"chordmail/api"
	"chordmail/value"
)

func writeProgram(s *sheet, p api.Program) {
	put := s.add
	for _, t := range p.Tags {
		put("tag ", t.Name)
		bracketed(put, value.Name, t.Types...)
		put(";\n")
	}
	for _, k := range p.Kinds {
		put("kind ", k.Name, " {\n")
		for _, c := range k.Chords {
			put("\t")
			writeChord(s, c)
			put("\n")
		}
		put("}\n")
	}
}

func writeChord(s *sheet, c api.Chord) {
	put := s.add
	put("chord ", c.Name, ": ")
	for i, p := range c.Parts {
		if i > 0 {
			put(" & ")
		}
		put(p.Tag)
		bracketed(put, itself, p.Vars...)
	}
	if len(c.Guard.Nodes) > 0 {
		put(" when ", s.expression(c.Guard))
	}
	put(" {\n")
	for _, a := range c.Body {
		put("\t\t")
		writeAct(s, a)
		put("\n")
	}
	put("\t}")
}

func writeAct(s *sheet, a api.Act) {
	put := s.add
	switch a.Kind {
	case api.ActSend:
		put("send ", s.expression(a.To), " ", a.Name)
		bracketed(put, s.expression, a.Args...)
	case api.ActSpawn:
		put("spawn ", a.Name, " as ", a.Var)
	case api.ActReply:
		put("reply")
		bracketed(put, s.expression, a.Args...)
	case api.ActBecome:
		put("become ", a.Name)
	default: // there is no such act, nor a text of it
		return
	}
	put(";")
}

// bracketed puts the texts of some things, with commas between.
func bracketed[T any](put func(pieces ...string), text func(T) string, l ...T) {
	put("(")
	for i, x := range l {
		if i > 0 {
			put(", ")
		}
		put(text(x))
	}
	put(")")
}

// itself is the text of a name.
func itself(name string) string { return name }
