package decl_test

import (
	"math/rand"
	"slices"
	"strings"
	"sync"
	"testing"

	"chordmail/api"
	"chordmail/decl"
	"chordmail/lex"
)

// drawing draws texts by the grammar, token by token.
type drawing struct{ draw *rand.Rand }

func (d drawing) one(l ...string) string { return l[d.draw.Intn(len(l))] }

// tokens draws a pattern's tokens.
func (d drawing) tokens(p *pattern) []string {
	var l []string
	switch p.way {
	case '"':
		return []string{p.said}
	case '=':
		return d.rule(p.said)
	case '|':
		return d.tokens(p.of[d.draw.Intn(len(p.of))])
	case '[':
		for range d.draw.Intn(2) {
			l = append(l, d.tokens(p.of[0])...)
		}
	case '{':
		for range d.draw.Intn(4) {
			l = append(l, d.tokens(p.of[0])...)
		}
	case '&':
		for _, q := range p.of {
			l = append(l, d.tokens(q)...)
		}
	}
	return l
}

func (d drawing) rule(rule string) []string {
	switch rule {
	case "word":
		return []string{d.one("x", "y", "n", "self", "k", "p", "inc", "int", "text", "bool", "true", "len", "at", "tag_", "Kind", "a1", strings.Repeat("w", 32))}
	case "type":
		return []string{d.one("int", "real", "comp", "text")}
	case "expr":
		return d.expression(1 + d.draw.Intn(12)*d.draw.Intn(7))
	}
	return d.tokens(grammar[rule])
}

// expression draws the tokens of an expression of about so many; some are too great.
func (d drawing) expression(size int) []string {
	if size <= 1 {
		return []string{d.one("x", "n", "self", "send", "as", "tag", "0", "12", "0p0", "3p-1", `"x"`, `"tag"`, `"\x00{"`, "true", "false")}
	}
	left := 1 + d.draw.Intn(size)
	a := d.expression(left)
	switch d.draw.Intn(7) {
	case 0:
		return append([]string{d.one("-", "!")}, a...)
	case 1:
		return slices.Concat([]string{"("}, a, []string{")"})
	case 2:
		return slices.Concat([]string{d.one("re", "im", "size2", "real", "len", "str"), "("}, a, []string{")"})
	case 3:
		return slices.Concat([]string{d.one("comp", "at", "cat"), "("}, a, []string{","}, d.expression(size-left), []string{")"})
	}
	b := d.expression(size - left)
	return slices.Concat([]string{"("}, a, []string{d.one("||", "&&", "==", "!=", "<", "<=", ">", ">=", "+", "-", "*", "/", "%")}, b, []string{")"})
}

// laid is the tokens' text, with blanks and comments around them; where they begin is told, and the text's length behind that.
func (d drawing) laid(tokens []string) (string, []int) {
	text, places := d.blanks(true), []int(nil)
	for _, x := range tokens {
		places = append(places, len(text))
		text += x + d.blanks(strings.Contains("(){},;:", x))
	}
	return text, append(places, len(text))
}

func (d drawing) blanks(mayLack bool) string {
	if mayLack && d.draw.Intn(2) == 0 {
		return ""
	}
	return d.one(" ", " ", " ", "\n", "\t", "\r\n", "  \n ", "#\n", " # tag x(); }\n", "\n# $ \" 07\n")
}

// changedTokens draws a change of some tokens: left out, doubled, turned round, another one in the place, cut off.
func (d drawing) changedTokens(l []string) []string {
	l = slices.Clone(l)
	others := otherTokens()
	for range 1 + d.draw.Intn(2) {
		if len(l) < 2 {
			break
		}
		k := d.draw.Intn(len(l) - 1)
		switch d.draw.Intn(6) {
		case 0:
			l = slices.Delete(l, k, k+1)
		case 1:
			l = slices.Insert(l, k, l[k])
		case 2:
			l[k], l[k+1] = l[k+1], l[k]
		case 3:
			l = l[:k]
		default:
			l[k] = others[d.draw.Intn(len(others))]
		}
	}
	return l
}

// P8.1, P8.2: drawn texts, and such texts with some tokens changed, held against the reference.
func TestDrawn(t *testing.T) {
	counts := map[api.Errno]int{}
	for i := range 4000 {
		d := drawing{rand.New(rand.NewSource(int64(i)))}
		rule, hold := "program", wantReference
		if i%3 == 0 {
			rule, hold = "chord", wantChordReference
		}
		tokens := d.rule(rule)
		text, _ := d.laid(tokens)
		fault := hold(t, text)
		if fault != api.OK && fault != api.ErrNodes && fault != api.ErrDepth {
			complain(t, "%q: %v", text, fault)
		}
		counts[fault]++
		text, _ = d.laid(d.changedTokens(tokens))
		counts[hold(t, text)]++
		if t.Failed() {
			t.FailNow()
		}
	}
	for _, fault := range []api.Errno{api.OK, api.ErrDecl, api.ErrExpr, api.ErrNodes, api.ErrDepth} {
		if counts[fault] < 50 {
			complain(t, "just %d texts with %v", counts[fault], fault)
		}
	}
}

// P8.4: blanks and comments between the tokens change nothing but places: an error is told of the same token.
func TestBlanks(t *testing.T) {
	for i := range 1500 {
		d := drawing{rand.New(rand.NewSource(int64(100000 + i)))}
		tokens := d.rule("program")
		if i%2 == 0 {
			tokens = d.changedTokens(tokens)
		}
		text := joined(tokens...)
		l, _, _ := lex.Scan([]byte(text))
		if len(l) != len(tokens) {
			t.Fatalf("%q: %d tokens; want %d", text, len(l), len(tokens))
		}
		p, at, fault := decl.Parse([]byte(text))
		for range 3 {
			other, places := d.laid(tokens)
			if fault == api.OK {
				wantProgram(t, other, p)
				continue
			}
			k := slices.IndexFunc(l, func(x lex.Token) bool { return x.At == at })
			if k < 0 {
				k = len(l)
			}
			wantFault(t, other, places[k], fault)
		}
		if at < 0 || at > len(text) {
			complain(t, "%q: the place %d", text, at)
		}
		if t.Failed() {
			t.FailNow()
		}
	}
}

// P8.4: a program that is read is read just so between others: its tags and kinds stand among theirs. A fault of the second text stands as much behind as it begins.
func TestBetween(t *testing.T) {
	for i := range 1500 {
		d := drawing{rand.New(rand.NewSource(int64(200000 + i)))}
		a, b := d.rule("program"), d.rule("program")
		if i%3 == 0 {
			b = d.changedTokens(b)
		}
		textA, _ := d.laid(a)
		textB, _ := d.laid(b)
		p, atA, faultA := decl.Parse([]byte(textA))
		q, atB, faultB := decl.Parse([]byte(textB))
		both := textA + "\n" + textB
		switch {
		case faultA != api.OK:
			if atA < len(textA) {
				wantFault(t, both, atA, faultA)
			}
		case faultB != api.OK:
			wantFault(t, both, len(textA)+1+atB, faultB)
		default:
			wanted := api.Program{Tags: slices.Concat(p.Tags, q.Tags), Kinds: slices.Concat(p.Kinds, q.Kinds)}
			wantProgram(t, both, wanted)
			wantProgram(t, both+"\n"+textB, api.Program{Tags: slices.Concat(wanted.Tags, q.Tags), Kinds: slices.Concat(wanted.Kinds, q.Kinds)})
		}
		if t.Failed() {
			t.FailNow()
		}
	}
	wantProgram(t, "tag t(); # so\nkind k { }", api.Program{Tags: []api.Tag{tag("t")}, Kinds: []api.Kind{kind("k")}})
	wantFault(t, "tag t()\n; )", 10, api.ErrDecl)
}

// P8.4: a program's chord is the chord that is read of its text alone.
func TestChordAlone(t *testing.T) {
	for i := range 500 {
		d := drawing{rand.New(rand.NewSource(int64(300000 + i)))}
		text, _ := d.laid(d.rule("chord"))
		c, at, fault := decl.ParseChord([]byte(text))
		const ahead = "tag p(); kind k { chord b: p() { }\n"
		if fault != api.OK {
			wantFault(t, ahead+text+"\n}", len(ahead)+at, fault)
			continue
		}
		b := api.Chord{Name: "b", Parts: []api.Part{part("p")}}
		wantProgram(t, ahead+text+"\n}", api.Program{Tags: []api.Tag{tag("p")}, Kinds: []api.Kind{kind("k", b, c)}})
	}
}

// P8.5: calls beside one another answer what each would answer alone.
func TestBeside(t *testing.T) {
	var texts []string
	for i := range 200 {
		d := drawing{rand.New(rand.NewSource(int64(400000 + i)))}
		tokens := d.rule("program")
		if i%2 == 0 {
			tokens = d.changedTokens(tokens)
		}
		text, _ := d.laid(tokens)
		texts = append(texts, text)
	}
	var group sync.WaitGroup
	for range 8 {
		group.Go(func() {
			for _, text := range texts {
				if wantReference(t, text); t.Failed() {
					return
				}
				wantChordReference(t, text)
			}
		})
	}
	group.Wait()
}
