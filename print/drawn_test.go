package print_test

import (
	"math/rand"
	"slices"
	"strings"
	"sync"
	"testing"

	"chordmail/api"
	"chordmail/decl"
	"chordmail/expr"
	"chordmail/lex"
	"chordmail/print"
)

// maker draws programs that have a text, whatever layer 9 says of them.
type maker struct{ draw *rand.Rand }

func newMaker(seed int) maker { return maker{rand.New(rand.NewSource(int64(seed)))} }

func (m maker) one(l ...string) string { return l[m.draw.Intn(len(l))] }

// drawn is a list of so many things, or fewer.
func drawn[T any](m maker, most int, one func() T) []T {
	var l []T
	for range m.draw.Intn(most + 1) {
		l = append(l, one())
	}
	return l
}

func (m maker) word() string {
	return m.one("x", "y", "n", "v", "self", "k", "ping", "inc", "int", "text", "true", "len", "at", "Kind", "tag_", "a1", "Z", times(32, "w"))
}

func (m maker) variable() string { return m.one("_", m.word(), m.word()) }

func (m maker) leaf() api.Node {
	switch m.draw.Intn(5) {
	case 0:
		return whole(m.draw.Int63() >> m.draw.Intn(64))
	case 1:
		return scaled(float64(m.draw.Intn(1000)) / float64(int(1)<<m.draw.Intn(20)))
	case 2:
		return said(m.one("", "a b", "\"\\", "\x00\n\xff", "# }", "x); become k;"))
	case 3:
		return api.Node{Kind: api.NodeValue, Value: api.Value{Kind: api.Bool, Int: int64(m.draw.Intn(2))}}
	}
	return called(m.one("x", "n", "self", "send", "as", "when", "tag", "int", "y_9"))
}

// grown is a list of nodes, of which the last one has all others; a few are too great, or too deep.
func (m maker) grown(l []api.Node, depth int) []api.Node {
	if depth == 0 || m.draw.Intn(3) == 0 {
		return append(l, m.leaf())
	}
	l = m.grown(l, depth-1)
	a := len(l) - 1
	kind := api.NodeNeg + m.draw.Intn(api.NodeStr-api.NodeNeg+1)
	switch kind {
	case api.NodeNeg, api.NodeNot, api.NodeRe, api.NodeIm, api.NodeSize, api.NodeReal, api.NodeLen, api.NodeStr:
		return append(l, one(kind, a))
	}
	l = m.grown(l, depth-1)
	return append(l, two(kind, a, len(l)-1))
}

func (m maker) expr() api.Expr {
	for {
		if e := nodes(m.grown(nil, m.draw.Intn(6))...); expr.May(e) == api.OK {
			return e
		}
	}
}

func (m maker) act() api.Act {
	switch m.draw.Intn(4) {
	case 0:
		return spawn(m.word(), m.word())
	case 1:
		return api.Act{Kind: api.ActReply, Args: drawn(m, 4, m.expr)}
	case 2:
		return become(m.word())
	}
	return api.Act{Kind: api.ActSend, To: m.expr(), Name: m.word(), Args: drawn(m, 4, m.expr)}
}

func (m maker) part() api.Part { return part(m.word(), drawn(m, 4, m.variable)...) }

func (m maker) chord() api.Chord {
	c := chord(m.word(), append(drawn(m, 3, m.part), m.part())...)
	if m.draw.Intn(3) > 0 {
		c.Guard = m.expr()
	}
	c.Body = drawn(m, 5, m.act)
	return c
}

func (m maker) program() api.Program {
	return api.Program{
		Tags: drawn(m, 4, func() api.Tag {
			return tag(m.word(), drawn(m, 4, func() int { return 1 + m.draw.Intn(4) })...)
		}),
		Kinds: drawn(m, 3, func() api.Kind { return kind(m.word(), drawn(m, 3, m.chord)...) }),
	}
}

// badName is mostly no word.
func (m maker) badName() string {
	return m.one("", " ", "_", "a b", "tag", "when", "as", "1", "a#", "x; become k", "p() & q", "a\n", "x, y", "x) when (y", times(33, "n"), "a(); tag b", m.word())
}

func (m maker) badExpr() api.Expr {
	switch m.draw.Intn(6) {
	case 0:
		return api.Expr{}
	case 1:
		return m.expr()
	case 2:
		return signed(12 + m.draw.Intn(52))
	case 3:
		return sums(6)
	}
	l := wrongs()
	return l[m.draw.Intn(len(l))].e
}

func (m maker) badKind() int { return []int{0, -1, 1, 2, 3, 4, 5, 6, 9}[m.draw.Intn(9)] }

// changes are ways in which a program is changed, one for each thing in it.
func (m maker) changes(p *api.Program) []func() {
	name := func(s *string) func() { return func() { *s = m.badName() } }
	of := func(e *api.Expr) func() { return func() { *e = m.badExpr() } }
	var l []func()
	for i := range p.Tags {
		a := &p.Tags[i]
		l = append(l, name(&a.Name), func() { a.Types = append(slices.Clone(a.Types), m.badKind()) })
	}
	for i := range p.Kinds {
		k := &p.Kinds[i]
		l = append(l, name(&k.Name))
		for j := range k.Chords {
			c := &k.Chords[j]
			l = append(l, name(&c.Name), of(&c.Guard), func() { c.Parts = nil }, func() { c.Body = append(c.Body, api.Act{Kind: m.badKind()}) })
			for x := range c.Parts {
				q := &c.Parts[x]
				l = append(l, name(&q.Tag), func() { q.Vars = append(slices.Clone(q.Vars), m.badName()) })
			}
			for x := range c.Body {
				a := &c.Body[x]
				l = append(l, name(&a.Name), name(&a.Var), of(&a.To), func() { a.Kind = m.badKind() }, func() { a.Args = append(slices.Clone(a.Args), m.badExpr()) })
			}
		}
	}
	return l
}

// changed is a drawn program with a few changes.
func (m maker) changed() api.Program {
	p := clonedProgram(m.program())
	for range 1 + m.draw.Intn(3) {
		if l := m.changes(&p); len(l) > 0 {
			l[m.draw.Intn(len(l))]()
		}
	}
	return p
}

// wantReference holds all three calls against the reference: of a program, its chords and its acts. It answers the program's error.
func wantReference(t *testing.T, p api.Program) api.Errno {
	t.Helper()
	for _, k := range p.Kinds {
		for _, c := range k.Chords {
			wantChord(t, c, refChord(c))
			for _, a := range c.Body {
				wantAct(t, a, refAct(a))
			}
		}
	}
	wanted := refPrint(p)
	wantProgram(t, p, wanted)
	return wanted.fault
}

// P10.1, P10.2, P10.3: drawn programs, and such with changes that most may not have.
func TestDrawn(t *testing.T) {
	t.Parallel()
	found := map[api.Errno]int{}
	for i := range 4000 {
		m := newMaker(i)
		if fault := wantReference(t, m.program()); fault != api.OK {
			t.Errorf("%d: %v", i, fault)
		}
		found[wantReference(t, m.changed())]++
		if t.Failed() {
			t.FailNow()
		}
	}
	for _, fault := range []api.Errno{api.OK, api.ErrExpr, api.ErrNodes, api.ErrDepth, api.ErrDecl} {
		if found[fault] < 50 {
			t.Errorf("just %d with %v", found[fault], fault)
		}
	}
}

// P10.1: a program that has all of several others: its text is theirs, tags ahead of kinds.
func TestTogether(t *testing.T) {
	for i := range 200 {
		m := newMaker(100000 + i)
		var all api.Program
		tagsText, kindsText := "", ""
		for range 4 {
			p := m.program()
			all = api.Program{Tags: append(all.Tags, p.Tags...), Kinds: append(all.Kinds, p.Kinds...)}
			a, _ := print.Print(tags(p.Tags...))
			b, _ := print.Print(kinds(p.Kinds...))
			tagsText, kindsText = tagsText+a, kindsText+b
		}
		if text := tagsText + kindsText; len(text) <= most {
			wantText(t, all, text)
		}
	}
}

// P10.2, P10.3: a chord's and an act's text is what stands of it in its program's; an error of theirs is the program's, too, if nothing ahead has another.
func TestWithin(t *testing.T) {
	t.Parallel()
	found := map[bool]int{}
	for i := range 3000 {
		m := newMaker(200000 + i)
		c := m.chord()
		if i%2 == 0 {
			p := kinds(kind("k", clonedChord(c)))
			l := m.changes(&p)[1:] // the kind's name stays
			l[m.draw.Intn(len(l))]()
			c = p.Kinds[0].Chords[0]
		}
		text, fault := print.Chord(c)
		whole, faultOfWhole := print.Print(kinds(kind("k", c)))
		if fault != faultOfWhole || fault == api.OK && whole != around(text) || fault != api.OK && text+whole != "" {
			complain(t, "Chord: %q, %v; Print: %q, %v; of %+v", text, fault, whole, faultOfWhole, c)
		}
		found[fault == api.OK]++
		lines := []string{}
		for _, a := range c.Body {
			line, fault := print.Act(a)
			whole, faultOfWhole := print.Print(kinds(kind("k", withBody(a))))
			if fault != faultOfWhole || fault == api.OK && whole != around(aroundActs(line)) || fault != api.OK && line+whole != "" {
				complain(t, "Act: %q, %v; Print: %q, %v; of %+v", line, fault, whole, faultOfWhole, a)
			}
			lines = append(lines, "\t\t"+line+"\n")
		}
		if fault == api.OK && !strings.HasSuffix(text, " {\n"+strings.Join(lines, "")+"\t}") {
			complain(t, "%q has not the acts %q", text, lines)
		}
	}
	if found[true] < 1000 || found[false] < 1000 {
		t.Error(found)
	}
}

// P10.4: what is answered is read by layer 8 as just what was handed in.
func TestThereAndBack(t *testing.T) {
	t.Parallel()
	for i := range 3000 {
		m := newMaker(300000 + i)
		p := m.program()
		if i%2 == 0 {
			p = m.changed()
		}
		text, fault := print.Print(p)
		if fault != api.OK {
			continue
		}
		if q, at, fault := decl.Parse([]byte(text)); fault != api.OK || at != 0 || !sameProgram(p, q) {
			complain(t, "%q is read as %+v, %d, %v", text, q, at, fault)
		}
		for _, k := range p.Kinds {
			for _, c := range k.Chords {
				text, _ := print.Chord(c)
				if d, at, fault := decl.ParseChord([]byte(text)); fault != api.OK || at != 0 || !sameChord(c, d) {
					complain(t, "%q is read as %+v, %d, %v", text, d, at, fault)
				}
				for _, a := range c.Body {
					text, _ := print.Act(a)
					if d, at, fault := decl.ParseChord([]byte("chord c: t() { " + text + " }")); fault != api.OK || at != 0 || len(d.Body) != 1 || !sameAct(a, d.Body[0]) {
						complain(t, "%q is read as %+v, %d, %v", text, d, at, fault)
					}
				}
			}
		}
	}
}

// wantOwnText holds a text that layer 8 reads against P10.4: the program's text is read as the program, and is its own text.
func wantOwnText(t *testing.T, text string) {
	t.Helper()
	p := parsed(t, text)
	own, fault := print.Print(p)
	if fault != api.OK || own != programText(p) {
		complain(t, "Print of %q: %q, %v", text, own, fault)
		return
	}
	q, at, fault := decl.Parse([]byte(own))
	if fault != api.OK || at != 0 || !sameProgram(p, q) {
		complain(t, "%q is read as %q, %d, %v", text, programText(q), at, fault)
	}
	if again, fault := print.Print(q); fault != api.OK || again != own {
		complain(t, "%q has the text %q, which has %q, %v", text, own, again, fault)
	}
}

// P10.4: texts with other blanks and comments, in other orders, with brackets that need not be there, and one that is its own.
func TestOtherTexts(t *testing.T) {
	const own = "tag a(int, text);\nkind k {\n\tchord c: a(n, _) & b() when n < (1 - 2) * 3 {\n\t\tsend self + 1 a(n, \"x\");\n\t\tspawn k as v;\n\t\treply(-5, 0p0);\n\t\tbecome k;\n\t}\n}\n"
	wantText(t, parsed(t, own), own)
	for _, text := range []string{
		"tag a(int,text);kind k{chord c:a(n,_)&b()when n<(1-2)*3{send self+1 a(n,\"x\");spawn k as v;reply(-5,0p0);become k;}}",
		"kind k { chord c: a(n, _) & b() when (n) < ((1 - 2) * 3) { send (self + 1) a((n), (\"x\")); spawn k as v; reply(-(5), (0p0)); become k; } } tag a(int, text);",
		"# so\n\n\ntag\ta\r\n( int # an int\n, text # a text\n) ; # tag b();\nkind k{\n#}\nchord c : a ( n , _ ) & b ( ) when ( ( n < ( ( 1 - 2 ) * 3 ) ) ) { send self + (1) a ( n , \"x\" ) ; spawn k\nas\nv ; reply ( -5 , 0p0 ) ; become\tk ; } }   ",
	} {
		if p := parsed(t, text); !sameProgram(p, parsed(t, own)) {
			complain(t, "%q is another program", text)
		}
		wantOwnText(t, text)
		wantText(t, parsed(t, text), own)
	}
	for _, text := range []string{
		"", " ", "# so", "\n\n", "tag a();", "kind k{}", "kind k { } tag a(); kind j { } tag b(real); kind k { }", "tag b();tag a();tag b();", "kind k{chord c:p(){}chord c:p(){}}",
		"kind k { chord c: p() when when { send send send_(as); reply(kind, tag); } }", "kind k { chord c: p() when ((((x)))) { } }", "kind k { chord c: p() { reply(0, 9223372036854775807, -9223372036854775807, 0p0, -0p0, 9007199254740991p971, 1p-1074, (1), (-(1))); } }",
		`kind k { chord c: p() { reply("", "\"\\\x00\xff", "#", "; } }"); } }`, "kind k { chord c: p() { reply(1 - (2 - 3), (1 - 2) - 3, 1 - 2 - 3, (a && b) || c, a && (b || c), !(!x), - -x, --x, ((a) < (b)) == (c < d)); } }",
		"kind k { chord c: p() { send -x t(); send (x) t(); send x + (y) t(); send at(t, (n)) t(); send ((a < b)) t(); } }", "kind k { chord c: p() { reply(); reply( ); send x t( ); } }",
	} {
		wantOwnText(t, text)
	}
	// A text that may be read, of which the program's own is too long.
	wantFault(t, parsed(t, times(4096, "tag t();")), api.ErrLong)
	wantFault(t, parsed(t, times(3000, "kind k{}")), api.ErrLong)
	wantOwnText(t, times(3640, "tag t();"))
	wantText(t, parsed(t, "kind k { } tag a(); kind j { } tag b(real);"), "tag a();\ntag b(real);\nkind k {\n}\nkind j {\n}\n")
}

// laid is the tokens of a text with other blanks and comments around them.
func (m maker) laid(text string) string {
	l, _, _ := lex.Scan([]byte(text))
	made := m.blank(true)
	for _, x := range l {
		made += text[x.At:x.At+x.Size] + m.blank(x.Kind == lex.Mark && strings.Contains("(){},;:", x.Text))
	}
	return made
}

func (m maker) blank(mayLack bool) string {
	if mayLack && m.draw.Intn(2) == 0 {
		return ""
	}
	return m.one(" ", "  ", "\n", "\t", "\r\n", " \n\t ", "#\n", "# tag x(); }\n", "\n# \" $\n")
}

// loose is the text of the node i with brackets around all children, and around itself, needed or not.
func (m maker) loose(e api.Expr, i int) string {
	n := e.Nodes[i]
	text := exprText(nodes(n)) // of a leaf
	switch {
	case n.Kind == api.NodeValue || n.Kind == api.NodeVar:
	case wordOf[n.Kind] != "" && n.B == 0:
		text = wordOf[n.Kind] + "(" + m.loose(e, n.A) + ")"
	case wordOf[n.Kind] != "":
		text = wordOf[n.Kind] + "(" + m.loose(e, n.A) + "," + m.loose(e, n.B) + ")"
	default:
		text = "(" + m.loose(e, n.A) + ")" + markOf[n.Kind] + "(" + m.loose(e, n.B) + ")"
	}
	if m.draw.Intn(3) == 0 {
		text = "((" + text + "))"
	}
	return text
}

var (
	wordOf = map[int]string{3: "-", 4: "!", 18: "re", 19: "im", 20: "size2", 21: "comp", 22: "real", 23: "len", 24: "at", 25: "cat", 26: "str"}
	markOf = map[int]string{5: "+", 6: "-", 7: "*", 8: "/", 9: "%", 10: "==", 11: "!=", 12: "<", 13: "<=", 14: ">", 15: ">=", 16: "&&", 17: "||"}
)

func (m maker) looseExpr(e api.Expr) string { return m.loose(e, len(e.Nodes)-1) }

func (m maker) looseAct(a api.Act) string {
	switch a.Kind {
	case api.ActSend:
		return "send " + m.looseExpr(a.To) + " " + a.Name + listText(a.Args, m.looseExpr) + ";"
	case api.ActReply:
		return "reply" + listText(a.Args, m.looseExpr) + ";"
	}
	return actText(a)
}

func (m maker) looseChord(c api.Chord) string {
	text := "chord " + c.Name + ":" + strings.Join(cloned(c.Parts, partText), "&")
	if len(c.Guard.Nodes) > 0 {
		text += " when " + m.looseExpr(c.Guard)
	}
	return text + "{" + strings.Join(cloned(c.Body, m.looseAct), "") + "}"
}

func (m maker) looseKind(k api.Kind) string {
	return "kind " + k.Name + "{" + strings.Join(cloned(k.Chords, m.looseChord), "") + "}"
}

// looseText is a program's text with needless brackets, its kinds among its tags.
func (m maker) looseText(p api.Program) string {
	text := ""
	for len(p.Tags)+len(p.Kinds) > 0 {
		if n := m.draw.Intn(len(p.Tags) + len(p.Kinds)); n < len(p.Tags) {
			text += programText(tags(p.Tags[0]))
			p.Tags = p.Tags[1:]
		} else {
			text += m.looseKind(p.Kinds[0])
			p.Kinds = p.Kinds[1:]
		}
	}
	return text
}

// P10.4: drawn texts: the same program by other blanks, comments and brackets, with its kinds among its tags, has the same text.
func TestDrawnTexts(t *testing.T) {
	t.Parallel()
	for i := range 1500 {
		m := newMaker(400000 + i)
		p := m.program()
		own, fault := print.Print(p)
		if fault != api.OK {
			t.Fatal(fault)
		}
		for _, text := range []string{m.laid(own), m.looseText(p), m.laid(m.looseText(p))} {
			if len(text) > most {
				continue
			}
			wantOwnText(t, text)
			wantText(t, parsed(t, text), own)
		}
		if t.Failed() {
			t.FailNow()
		}
	}
}

// P10.5: calls beside one another answer what each would answer alone.
func TestBeside(t *testing.T) {
	var l []api.Program
	for i := range 60 {
		m := newMaker(500000 + i)
		l = append(l, m.program(), m.changed())
	}
	var group sync.WaitGroup
	for range 8 {
		group.Go(func() {
			for _, p := range l {
				if wantReference(t, p); t.Failed() {
					return
				}
			}
		})
	}
	group.Wait()
}
