package decl_test

import (
	"bytes"
	"cmp"
	"slices"
	"strings"
	"testing"
	"unsafe"

	"chordmail/api"
	"chordmail/decl"
)

// span is a piece of memory.
type span struct{ from, to uintptr }

// room is the memory of a list, the room behind it with it.
func room[T any](l []T) []span {
	if cap(l) == 0 {
		return nil
	}
	from := uintptr(unsafe.Pointer(unsafe.SliceData(l)))
	return []span{{from, from + uintptr(cap(l))*unsafe.Sizeof(*unsafe.SliceData(l))}}
}

func rooms[T any](all []T, of func(T) []span) []span {
	l := room(all)
	for _, x := range all {
		l = append(l, of(x)...)
	}
	return l
}

// The memory of each list of a thing, one by one.

func ofExpr(e api.Expr) []span { return room(e.Nodes) }

func ofAct(a api.Act) []span { return append(ofExpr(a.To), rooms(a.Args, ofExpr)...) }

func ofPart(p api.Part) []span { return room(p.Vars) }

func ofChord(c api.Chord) []span {
	return slices.Concat(rooms(c.Parts, ofPart), ofExpr(c.Guard), rooms(c.Body, ofAct))
}

func ofKind(k api.Kind) []span { return rooms(k.Chords, ofChord) }

func ofTag(a api.Tag) []span { return room(a.Types) }

func ofProgram(p api.Program) []span {
	return append(rooms(p.Tags, ofTag), rooms(p.Kinds, ofKind)...)
}

// wantApart holds that no two pieces of memory share any.
func wantApart(t *testing.T, what string, l []span) {
	t.Helper()
	slices.SortFunc(l, func(a, b span) int { return cmp.Compare(a.from, b.from) })
	for i := 1; i < len(l); i++ {
		if l[i].from < l[i-1].to {
			complain(t, "%s: two lists share memory", what)
		}
	}
}

// fill writes over a list, the room behind it with it, and goes on with it.
func fill[T any](l []T, with T) {
	l = l[:cap(l)]
	for i := range l {
		l[i] = with
	}
	_ = append(l, with)
}

// fillBehind writes over the room behind a list alone.
func fillBehind[T any](l []T, with T) { fill(l[len(l):], with) }

// filler writes over lists: all of each, or the room behind it alone.
type filler struct{ behind bool }

func fillOne[T any](f filler, l []T, with T) {
	if f.behind {
		fillBehind(l, with)
	} else {
		fill(l, with)
	}
}

func (f filler) expr(e api.Expr) {
	fillOne(f, e.Nodes, api.Node{Kind: -7, A: 99, B: 99, Name: "junk", Value: api.Value{Kind: 9, Int: 9}})
}

func (f filler) chord(c api.Chord) {
	f.expr(c.Guard)
	for _, p := range c.Parts {
		fillOne(f, p.Vars, "junk")
	}
	fillOne(f, c.Parts, part("junk", "junk"))
	for _, a := range c.Body {
		f.expr(a.To)
		for _, e := range a.Args {
			f.expr(e)
		}
		fillOne(f, a.Args, of("99"))
	}
	fillOne(f, c.Body, api.Act{Kind: 99, To: of("99"), Name: "junk", Var: "junk", Args: exprs("99")})
}

func (f filler) program(p api.Program) {
	for _, a := range p.Tags {
		fillOne(f, a.Types, 99)
	}
	fillOne(f, p.Tags, tag("junk", 99))
	for _, k := range p.Kinds {
		for _, c := range k.Chords {
			f.chord(c)
		}
		fillOne(f, k.Chords, api.Chord{Name: "junk", Guard: of("99")})
	}
	fillOne(f, p.Kinds, kind("junk"))
}

// wideText has lists of many lengths, of which some have room behind them.
func wideText() string {
	const chord = `chord c: p(x, y, z) & q() & p(_, _, _) when x < y && !(z == "long text" || y > 5) { send self + x p(x, y + 1, z); send x q(); spawn kk as v; reply(v, 1, "long text", x + y, z); become kk; }`
	return "tag t(int, real, text); tag p(int); tag q(); tag r(int, int, int, int, int); tag t(comp); kind kk { " + strings.Repeat(chord+"\n", 5) + "} kind j { } kind kk { " + chord + " }"
}

func wideWanted(t *testing.T) api.Program {
	t.Helper()
	x, _, fault := reference(wideText(), "program")
	if fault != api.OK {
		t.Fatal(fault)
	}
	return x.program()
}

// P8.5: the text that is handed in stays as it was, with the room behind it, and what stands there is not looked at; written over behind the call, it changes no answer.
func TestHandedIn(t *testing.T) {
	wanted := wideWanted(t)
	tokens, _ := longTokens()
	for _, text := range []string{wideText(), joined(tokens...), "", "tag t(int", "kind k { chord c: p() when { } }", "$", "chord c: p() { }", "kind k { chord c: p() when " + strings.Repeat("-", 20) + "x { } }"} {
		for _, behind := range []string{"", "tag u();", ")", " $"} {
			handed := []byte(text + behind)
			kept := bytes.Clone(handed)
			p, at, fault := decl.Parse(handed[:len(text)])
			q, place, wrong := decl.Parse([]byte(text))
			if at != place || fault != wrong || !sameProgram(p, q) {
				complain(t, "%.100q with %q behind it: %v, %d, %v", text, behind, p, at, fault)
			}
			decl.ParseChord(handed[:len(text)])
			if !bytes.Equal(handed, kept) {
				complain(t, "%.100q is changed: %.100q", kept, handed)
			}
		}
	}
	handed := []byte(wideText())
	p, _, _ := decl.Parse(handed)
	for i := range handed {
		handed[i] = '#'
	}
	if !sameProgram(p, wanted) {
		complain(t, "the answer changes with the text: %v", p)
	}
	handed = []byte(`chord c: pp(x) when x == "long text" { spawn kk as vv; send vv pp("long text"); }`)
	wantedC := api.Chord{Name: "c", Parts: []api.Part{part("pp", "x")}, Guard: of(`x == "long text"`), Body: []api.Act{spawn("kk", "vv"), send("vv", "pp", `"long text"`)}}
	c, _, _ := decl.ParseChord(handed)
	clear(handed)
	if !sameChord(c, wantedC) {
		complain(t, "the chord changes with the text: %v", c)
	}
}

// P8.5: each list is memory of its own, the room behind it too: of one answer, and of several.
func TestOwnLists(t *testing.T) {
	a, b := parsed(t, wideText()), parsed(t, wideText())
	l := ofProgram(a)
	if len(l) < 80 {
		complain(t, "just %d lists", len(l))
	}
	wantApart(t, "two programs", append(l, ofProgram(b)...))
	const chord = "chord c: p(x, y) & q(x) when x < y { send x p(x, y, y); reply(x); become k; }"
	c, _, _ := decl.ParseChord([]byte(chord))
	d, _, _ := decl.ParseChord([]byte(chord))
	wantApart(t, "two chords", append(ofChord(c), ofChord(d)...))
}

// P8.5: an answer that is written over changes no other one, neither an earlier one nor a later one; written over behind its lists it is as it was.
func TestNewMemory(t *testing.T) {
	wanted := wideWanted(t)
	a, b := parsed(t, wideText()), parsed(t, wideText())
	filler{behind: true}.program(a)
	if !sameProgram(a, wanted) {
		complain(t, "an answer changes with the room behind its lists: %v", a)
	}
	filler{}.program(a)
	if !sameProgram(b, wanted) {
		complain(t, "an answer changes with another: %v", b)
	}
	wantProgram(t, wideText(), wanted)
	wantProgram(t, "tag t();", api.Program{Tags: []api.Tag{tag("t")}})

	c := wanted.Kinds[2].Chords[0]
	text := wideText()[strings.LastIndex(wideText(), "chord c"):]
	text = strings.TrimSuffix(text, " }")
	x, _, _ := decl.ParseChord([]byte(text))
	filler{behind: true}.chord(x)
	if !sameChord(x, c) {
		complain(t, "a chord changes with the room behind its lists: %v", x)
	}
	filler{}.chord(x)
	wantChord(t, text, c)
}

// P8.5: nothing is kept from call to call: a call answers the same behind others that failed.
func TestNothingKept(t *testing.T) {
	wanted := wideWanted(t)
	for _, other := range []string{"", "tag t(int", "tag t();;", "$", "kind k { chord c: p() when { } }", "kind k { chord c: p() { reply(" + strings.Repeat("(", 3000), "chord c: p() { }", "tag u(); kind z { }"} {
		_, at, fault := decl.Parse([]byte(other))
		decl.ParseChord([]byte(other))
		wantProgram(t, wideText(), wanted)
		if _, place, wrong := decl.Parse([]byte(other)); place != at || wrong != fault {
			complain(t, "%q: %d, %v, then %d, %v", other, at, fault, place, wrong)
		}
	}
}

// P8.1, P8.4, P0.1: whatever bytes there are, the call ends, with a place within the text.
func FuzzParse(f *testing.F) {
	tokens, _ := longTokens()
	for _, text := range []string{"", wideText(), joined(tokens...), "tag t(", "kind k { chord c: p(x) when x { send", "\xff\x00", `"`} {
		f.Add([]byte(text))
	}
	f.Fuzz(func(t *testing.T, text []byte) {
		wantReference(t, string(text))
		wantChordReference(t, string(text))
		if _, at, _ := decl.Parse(text); at < 0 || at > len(text) {
			complain(t, "%q: the place %d", text, at)
		}
	})
}
