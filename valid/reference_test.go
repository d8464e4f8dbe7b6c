package valid_test

import (
	"math"
	"regexp"
	"slices"

	"chordmail/api"
	"chordmail/types"
	"chordmail/valid"
)

// The reference lists all places of a program, sorts them as the chapter's table has them, and judges each by itself, out of the whole program: it remembers nothing of the places ahead.

var (
	wordPattern     = regexp.MustCompile(`\A[A-Za-z][A-Za-z0-9_]{0,31}\z`)
	keywordPattern  = regexp.MustCompile(`\A(tag|kind|chord|when|send|spawn|as|reply|become)\z`)
	reservedPattern = regexp.MustCompile(`\A(true|false|re|im|size2|comp|real|len|at|cat|str)\z`)
)

func refWord(name string) bool {
	return wordPattern.MatchString(name) && !keywordPattern.MatchString(name)
}

func refVariable(name string) bool { return refWord(name) && !reservedPattern.MatchString(name) }

// refOrder is where a place stands among the others: lists of numbers, held against each other as words are.
func refOrder(at valid.Place) []int {
	const theKinds, theParts, theActs = 4, 1, 4
	inChord := []int{theKinds, at.Kind, 1 + at.Chord}
	switch at.In {
	case valid.InTags, valid.InKinds:
		return []int{at.In}
	case valid.InTag:
		return []int{3, at.Tag}
	case valid.InKind:
		return []int{theKinds, at.Kind}
	case valid.InChord:
		return inChord
	case valid.InPart:
		return append(inChord, theParts, at.Part)
	case valid.InVar:
		return append(inChord, theParts, at.Part, 1+at.Arg)
	case valid.InGuard:
		return append(inChord, 2)
	case valid.InBody:
		return append(inChord, 3)
	case valid.InAct:
		return append(inChord, theActs, at.Act)
	case valid.InArg:
		return append(inChord, theActs, at.Act, 1+at.Arg)
	}
	return []int{math.MaxInt}
}

// refPlaces are all places of a program, in the table's order.
func refPlaces(p api.Program) []valid.Place {
	l := []valid.Place{{In: valid.InTags}, {In: valid.InKinds}}
	for t := range p.Tags {
		l = append(l, valid.Place{In: valid.InTag, Tag: t})
	}
	for k := range p.Kinds {
		l = append(l, valid.Place{In: valid.InKind, Kind: k})
		for c := range p.Kinds[k].Chords {
			l = append(l, refPlacesOf(p.Kinds[k].Chords[c], k, c)...)
		}
	}
	orders := map[valid.Place][]int{}
	for _, at := range l {
		orders[at] = refOrder(at)
	}
	slices.SortFunc(l, func(a, b valid.Place) int { return slices.Compare(orders[a], orders[b]) })
	return l
}

// refPlacesOf are the places of a chord, row by row of the table, so that they have to be sorted.
func refPlacesOf(chord api.Chord, k, c int) []valid.Place {
	var l []valid.Place
	for _, in := range []int{valid.InChord, valid.InGuard, valid.InBody} {
		l = append(l, valid.Place{In: in, Kind: k, Chord: c})
	}
	for i := range chord.Parts {
		l = append(l, valid.Place{In: valid.InPart, Kind: k, Chord: c, Part: i})
	}
	for i := range chord.Parts {
		for v := range chord.Parts[i].Vars {
			l = append(l, valid.Place{In: valid.InVar, Kind: k, Chord: c, Part: i, Arg: v})
		}
	}
	for i := range chord.Body {
		l = append(l, valid.Place{In: valid.InAct, Kind: k, Chord: c, Act: i})
	}
	for i := range chord.Body {
		for j := range chord.Body[i].Args {
			l = append(l, valid.Place{In: valid.InArg, Kind: k, Chord: c, Act: i, Arg: j})
		}
	}
	return l
}

// refTypes are the types of the first tag of a name; false, if there is none.
func refTypes(p api.Program, name string) ([]int, bool) {
	for _, t := range p.Tags {
		if t.Name == name {
			return t.Types, true
		}
	}
	return nil, false
}

func refHasKind(p api.Program, name string) bool {
	return slices.ContainsFunc(p.Kinds, func(k api.Kind) bool { return k.Name == name })
}

// refFields are a chord's variables, and those of the spawns among its first acts.
func refFields(p api.Program, c api.Chord, acts int) []api.Field {
	l := []api.Field{{Name: "self", Kind: api.Int}}
	for _, part := range c.Parts {
		kinds, _ := refTypes(p, part.Tag)
		for i, name := range part.Vars {
			if i < len(kinds) && name != "_" {
				l = append(l, api.Field{Name: name, Kind: kinds[i]})
			}
		}
	}
	for _, a := range c.Body[:acts] {
		if a.Kind == api.ActSpawn {
			l = append(l, api.Field{Name: a.Var, Kind: api.Int})
		}
	}
	return l
}

// broken is an error and whether something breaks its rule.
type broken struct {
	fault api.Errno
	is    bool
}

// refTwice tells whether the name of a list's thing stands ahead of it, too.
func refTwice[T any](l []T, i int, name func(T) string) bool {
	return slices.ContainsFunc(l[:i], func(x T) bool { return name(x) == name(l[i]) })
}

// refRules are the rules of a place, in order, and which are broken. Places ahead of it must be without a breach.
func refRules(p api.Program, at valid.Place) []broken {
	switch at.In {
	case valid.InTags:
		return []broken{{api.ErrTags, len(p.Tags) == 0 || len(p.Tags) > 64}}
	case valid.InKinds:
		return []broken{{api.ErrKinds, len(p.Kinds) == 0 || len(p.Kinds) > 32}}
	case valid.InTag:
		t := p.Tags[at.Tag]
		types := slices.ContainsFunc(t.Types, func(k int) bool { return !slices.Contains([]int{1, 2, 3, 4}, k) })
		return []broken{{api.ErrName, !refWord(t.Name)}, {api.ErrTwice, refTwice(p.Tags, at.Tag, func(t api.Tag) string { return t.Name })}, {api.ErrFields, len(t.Types) > 6 || types}}
	case valid.InKind:
		k := p.Kinds[at.Kind]
		return []broken{{api.ErrName, !refWord(k.Name)}, {api.ErrTwice, refTwice(p.Kinds, at.Kind, func(k api.Kind) string { return k.Name })}, {api.ErrChords, len(k.Chords) > 12}}
	}
	l := p.Kinds[at.Kind].Chords
	c := l[at.Chord]
	switch at.In {
	case valid.InChord:
		return []broken{{api.ErrName, !refWord(c.Name)}, {api.ErrTwice, refTwice(l, at.Chord, func(c api.Chord) string { return c.Name })}, {api.ErrParts, len(c.Parts) == 0 || len(c.Parts) > 4}}
	case valid.InPart:
		kinds, is := refTypes(p, c.Parts[at.Part].Tag)
		return []broken{{api.ErrNoTag, !is}, {api.ErrFields, len(kinds) != len(c.Parts[at.Part].Vars)}}
	case valid.InVar:
		return refVar(c, at)
	case valid.InGuard:
		fault := types.Is(c.Guard, refFields(p, c, 0), 5)
		return []broken{{fault, len(c.Guard.Nodes) > 0}}
	case valid.InBody:
		return []broken{{api.ErrBody, len(c.Body) > 12}}
	case valid.InAct:
		return refAct(p, c, at.Act)
	}
	return refArg(p, c, at)
}

func refVar(c api.Chord, at valid.Place) []broken {
	ahead := []string{"self"}
	for _, part := range c.Parts[:at.Part] {
		ahead = append(ahead, part.Vars...)
	}
	vars := c.Parts[at.Part].Vars
	ahead = append(ahead, vars[:at.Arg]...)
	name := vars[at.Arg]
	if name == "_" {
		return nil
	}
	return []broken{{api.ErrName, !refVariable(name)}, {api.ErrTwice, slices.Contains(ahead, name)}}
}

func refAct(p api.Program, c api.Chord, i int) []broken {
	a, vars := c.Body[i], refFields(p, c, i)
	to, name, v, args := len(a.To.Nodes) > 0, a.Name != "", a.Var != "", len(a.Args) > 0
	switch a.Kind {
	case 1:
		kinds, is := refTypes(p, a.Name)
		return []broken{{api.ErrBody, v}, {types.Is(a.To, vars, 1), true}, {api.ErrNoTag, !is}, {api.ErrFields, len(kinds) != len(a.Args)}}
	case 2:
		has := slices.ContainsFunc(vars, func(f api.Field) bool { return f.Name == a.Var })
		return []broken{{api.ErrBody, to || args}, {api.ErrNoKind, !refHasKind(p, a.Name)}, {api.ErrName, !refVariable(a.Var)}, {api.ErrTwice, has}}
	case 3:
		return []broken{{api.ErrBody, to || name || v}, {api.ErrFields, len(a.Args) > 6}}
	case 4:
		return []broken{{api.ErrBody, to || v || args}, {api.ErrNoKind, !refHasKind(p, a.Name)}}
	}
	return []broken{{api.ErrBody, true}}
}

func refArg(p api.Program, c api.Chord, at valid.Place) []broken {
	a, vars := c.Body[at.Act], refFields(p, c, at.Act)
	if a.Kind == 1 {
		kinds, _ := refTypes(p, a.Name)
		return []broken{{types.Is(a.Args[at.Arg], vars, kinds[at.Arg]), true}}
	}
	own, fault := types.Of(a.Args[at.Arg], vars)
	return []broken{{fault, true}, {api.ErrType, own == 5}}
}

// reference is the first place of a program that breaks a rule, and the first of its errors.
func reference(p api.Program) (valid.Place, api.Errno) {
	for _, at := range refPlaces(p) {
		for _, b := range refRules(p, at) {
			if b.is && b.fault != api.OK {
				return at, b.fault
			}
		}
	}
	return valid.Place{}, api.OK
}
