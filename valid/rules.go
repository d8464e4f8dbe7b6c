package valid

import (
	"slices"

	"chordmail/api"
	"chordmail/decl"
	"chordmail/expr"
	"chordmail/lex"
	"chordmail/types"
)

// self is the variable that each chord has, blank stands where a part has none.
const (
	self  = "self"
	blank = "_"
)

// names answers a closure that tells what is wrong with one more name of a list: that it may not be one, or was told before, or is taken from the beginning on.
func names(may func(string) bool, taken ...string) func(string) api.Errno {
	told := slices.Clone(taken)
	return func(name string) api.Errno {
		if !may(name) {
			return api.ErrName
		}
		if slices.Contains(told, name) {
			return api.ErrTwice
		}
		told = append(told, name)
		return api.OK
	}
}

// isWord tells whether a tag, a kind and a chord may have a name.
func isWord(name string) bool {
	l, _, _ := lex.Scan([]byte(name))
	return len(l) == 1 && l[0].Kind == lex.Name && l[0].Text == name && !decl.Keyword(name)
}

// isVariable tells whether a variable may have a name: a word that is a variable within an expression.
func isVariable(name string) bool {
	e := api.Expr{Nodes: []api.Node{{Kind: api.NodeVar, Name: name}}}
	return isWord(name) && expr.May(e) == api.OK
}

// isPlain tells whether an act is of a kind, and has nothing that this does not name.
func isPlain(a api.Act) bool {
	to, name, v, args := len(a.To.Nodes) > 0, a.Name != "", a.Var != "", len(a.Args) > 0
	switch a.Kind {
	case api.ActSend:
		return !v
	case api.ActSpawn:
		return !to && !args
	case api.ActReply:
		return !to && !name && !v
	case api.ActBecome:
		return !to && !v && !args
	}
	return false
}

// typesFault is what is wrong with the types of a tag's fields.
func typesFault(l []int) api.Errno {
	if len(l) > api.MaxFields {
		return api.ErrFields
	}
	for _, kind := range l {
		if kind < api.Int || kind > api.Text {
			return api.ErrFields
		}
	}
	return api.OK
}

// guardFault is what is wrong with a guard; without nodes there is none.
func guardFault(e api.Expr, vars []api.Field) api.Errno {
	if len(e.Nodes) == 0 {
		return api.OK
	}
	return types.Is(e, vars, api.Bool)
}

// within is a fault, if there are fewer of something than the least, or more than the most.
func within(n, least, most int, fault api.Errno) api.Errno {
	return unless(least <= n && n <= most, fault)
}

// unless is a fault where something does not hold.
func unless(holds bool, fault api.Errno) api.Errno {
	if holds {
		return api.OK
	}
	return fault
}
