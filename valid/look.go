package valid

import (
	"cmp"

	"chordmail/api"
	"chordmail/types"
)

// looking goes through a program, and keeps the breach at which it was left.
type looking struct {
	program api.Program
	at      Place
	fault   api.Errno
}

// wrong keeps a fault and where it is, and tells whether it is one at all.
func (l *looking) wrong(in int, at Place, fault api.Errno) bool {
	if fault == api.OK {
		return false
	}
	at.In = in
	l.at, l.fault = at, fault
	return true
}

// lengths looks at how many tags and kinds there are.
func (l *looking) lengths() bool {
	return l.wrong(InTags, Place{}, within(len(l.program.Tags), 1, api.MaxTags, api.ErrTags)) ||
		l.wrong(InKinds, Place{}, within(len(l.program.Kinds), 1, api.MaxKinds, api.ErrKinds))
}

// tags looks at the tags one by one.
func (l *looking) tags() bool {
	naming := names(isWord)
	for i, t := range l.program.Tags {
		if l.wrong(InTag, Place{Tag: i}, cmp.Or(naming(t.Name), typesFault(t.Types))) {
			return true
		}
	}
	return false
}

// kinds looks at the kinds one by one: at a kind, then at its chords one by one; at a chord, then at its parts, each with its Vars, its guard and its body.
func (l *looking) kinds() bool {
	namingKinds := names(isWord)
kinds:
	for k, kind := range l.program.Kinds {
		if l.wrong(InKind, Place{Kind: k}, cmp.Or(namingKinds(kind.Name), within(len(kind.Chords), 0, api.MaxChords, api.ErrChords))) {
			break
		}
		namingChords := names(isWord)
		for c, chord := range kind.Chords {
			at := Place{Kind: k, Chord: c}
			if l.wrong(InChord, at, cmp.Or(namingChords(chord.Name), within(len(chord.Parts), 1, api.MaxParts, api.ErrParts))) {
				break kinds
			}
			namingVars := names(isVariable, self)
			for i, part := range chord.Parts {
				if l.wrong(InPart, Place{Kind: k, Chord: c, Part: i}, l.partFault(part)) {
					break kinds
				}
				for v, name := range part.Vars {
					if name != blank && l.wrong(InVar, Place{Kind: k, Chord: c, Part: i, Arg: v}, namingVars(name)) {
						break kinds
					}
				}
			}
			vars := Fields(l.program, chord)
			if l.wrong(InGuard, at, guardFault(chord.Guard, vars)) || l.body(at, chord.Body, vars, namingVars) {
				break kinds
			}
		}
	}
	return l.fault != api.OK
}

// body looks at a chord's acts one by one, and at the arguments of each. The chord's variables become more by each spawn, and what is wrong with the name of a further one is told by naming.
func (l *looking) body(at Place, body []api.Act, vars []api.Field, naming func(string) api.Errno) bool {
	if l.wrong(InBody, at, within(len(body), 0, api.MaxBody, api.ErrBody)) {
		return true
	}
acts:
	for i, a := range body {
		at.Act, at.Arg = i, 0
		if l.wrong(InAct, at, l.actFault(a, vars, naming)) {
			break
		}
		for j := range a.Args {
			at.Arg = j
			if l.wrong(InArg, at, l.argFault(a, j, vars)) {
				break acts
			}
		}
		if a.Kind == api.ActSpawn {
			vars = append(vars, api.Field{Name: a.Var, Kind: api.Int})
		}
	}
	return l.fault != api.OK
}

// actFault is what is wrong with an act, but for its arguments one by one.
func (l *looking) actFault(a api.Act, vars []api.Field, naming func(string) api.Errno) api.Errno {
	if !isPlain(a) {
		return api.ErrBody
	}
	tag, isTag := Tag(l.program, a.Name)
	_, isKind := Kind(l.program, a.Name)
	switch a.Kind {
	case api.ActSend:
		if fault := cmp.Or(types.Is(a.To, vars, api.Int), unless(isTag, api.ErrNoTag)); fault != api.OK {
			return fault
		}
		return unless(len(a.Args) == len(l.program.Tags[tag].Types), api.ErrFields)
	case api.ActSpawn:
		return cmp.Or(unless(isKind, api.ErrNoKind), naming(a.Var))
	case api.ActReply:
		return within(len(a.Args), 0, api.MaxFields, api.ErrFields)
	}
	return unless(isKind, api.ErrNoKind)
}

// argFault is what is wrong with an argument of an act in which nothing else is.
func (l *looking) argFault(a api.Act, arg int, vars []api.Field) api.Errno {
	if a.Kind == api.ActSend {
		tag, _ := Tag(l.program, a.Name)
		return types.Is(a.Args[arg], vars, l.program.Tags[tag].Types[arg])
	}
	kind, fault := types.Of(a.Args[arg], vars)
	return cmp.Or(fault, unless(kind != api.Bool, api.ErrType))
}

// partFault is what is wrong with a part, but for its Vars one by one.
func (l *looking) partFault(part api.Part) api.Errno {
	tag, known := Tag(l.program, part.Tag)
	if !known {
		return api.ErrNoTag
	}
	return unless(len(part.Vars) == len(l.program.Tags[tag].Types), api.ErrFields)
}
