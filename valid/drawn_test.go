package valid_test

import (
	"fmt"
	"math/rand"
	"slices"
	"sync"
	"testing"

	"chordmail/api"
	"chordmail/types"
	"chordmail/valid"
)

// maker draws programs that may be.
type maker struct {
	draw *rand.Rand
	vars []api.Field
	made []api.Node
}

func newMaker(seed int) *maker { return &maker{draw: rand.New(rand.NewSource(int64(seed)))} }

// names draws unlike names.
func (m *maker) names(n int) []string {
	pool := append([]string{"self", "n", "m", "re", "int", "true", "x"}, made(n+3, func(i int) string { return fmt.Sprint("n", i) })...)
	m.draw.Shuffle(len(pool), func(i, j int) { pool[i], pool[j] = pool[j], pool[i] })
	return pool[:n]
}

// add lists a node and answers its number.
func (m *maker) add(n api.Node) int {
	m.made = append(m.made, n)
	return len(m.made) - 1
}

// make lists nodes of a type and answers the last one's number.
func (m *maker) make(kind, depth int) int {
	if depth == 0 || m.draw.Intn(3) == 0 {
		return m.leaf(kind)
	}
	depth--
	same := func(ops ...int) int {
		a := m.make(kind, depth)
		return m.add(two(ops[m.draw.Intn(len(ops))], a, m.make(kind, depth)))
	}
	switch way := m.draw.Intn(4); {
	case kind == api.Bool && way == 0:
		return same(api.NodeAnd, api.NodeOr, api.NodeEq)
	case kind == api.Bool:
		of := 1 + m.draw.Intn(4)
		a := m.make(of, depth)
		op := api.NodeEq + m.draw.Intn(6)
		if of == api.Comp {
			op = api.NodeNe
		}
		return m.add(two(op, a, m.make(of, depth)))
	case kind == api.Text && way < 2:
		return m.add(one(api.NodeStr, m.make(api.Int, depth)))
	case kind == api.Text:
		return same(api.NodeCat)
	case kind == api.Int && way == 0:
		return m.add(one(api.NodeLen, m.make(api.Text, depth)))
	case kind == api.Real && way == 0:
		return m.add(one(api.NodeIm, m.make(api.Comp, depth)))
	case way == 1:
		return m.add(one(api.NodeNeg, m.make(kind, depth)))
	}
	return same(api.NodeAdd, api.NodeSub, api.NodeMul)
}

func (m *maker) leaf(kind int) int {
	var fit []string
	for _, v := range m.vars {
		if v.Kind == kind {
			fit = append(fit, v.Name)
		}
	}
	if len(fit) > 0 && m.draw.Intn(5) > 0 {
		return m.add(called(fit[m.draw.Intn(len(fit))]))
	}
	if kind == api.Comp {
		a := m.leaf(api.Real)
		return m.add(two(api.NodeComp, a, m.leaf(api.Real)))
	}
	texts := []string{api.Int: "7", api.Real: "1p-1", api.Text: `"long text"`, api.Bool: "true"}
	return m.add(of(texts[kind]).Nodes[0])
}

func (m *maker) expr(kind int) api.Expr {
	m.made = nil
	m.make(kind, m.draw.Intn(4))
	return api.Expr{Nodes: m.made}
}

func (m *maker) program() api.Program {
	var p api.Program
	for _, name := range m.names(1 + m.draw.Intn(6)) {
		p.Tags = append(p.Tags, tag(name, made(m.draw.Intn(5), func(int) int { return 1 + m.draw.Intn(4) })...))
	}
	for _, name := range m.names(1 + m.draw.Intn(4)) {
		p.Kinds = append(p.Kinds, kind(name))
	}
	for k := range p.Kinds {
		for _, name := range m.names(m.draw.Intn(4)) {
			p.Kinds[k].Chords = append(p.Kinds[k].Chords, m.chord(p, name))
		}
	}
	return p
}

func (m *maker) chord(p api.Program, name string) api.Chord {
	c := chord(name)
	names := made(40, func(i int) string { return fmt.Sprint("v", i) })
	m.draw.Shuffle(len(names), func(i, j int) { names[i], names[j] = names[j], names[i] })
	m.vars = []api.Field{{Name: "self", Kind: api.Int}}
	for range 1 + m.draw.Intn(4) {
		t := p.Tags[m.draw.Intn(len(p.Tags))]
		a := part(t.Name)
		for _, kind := range t.Types {
			if m.draw.Intn(4) == 0 {
				a.Vars = append(a.Vars, "_")
				continue
			}
			a.Vars = append(a.Vars, names[0])
			m.vars = append(m.vars, field(names[0], kind))
			names = names[1:]
		}
		c.Parts = append(c.Parts, a)
	}
	if m.draw.Intn(3) > 0 {
		c.Guard = m.expr(api.Bool)
	}
	for range m.draw.Intn(7) {
		a := m.act(p, names[0])
		if c.Body = append(c.Body, a); a.Kind == api.ActSpawn {
			m.vars, names = append(m.vars, field(a.Var, api.Int)), names[1:]
		}
	}
	return c
}

// act draws an act; a spawn's variable has the name that is told.
func (m *maker) act(p api.Program, name string) api.Act {
	k := p.Kinds[m.draw.Intn(len(p.Kinds))].Name
	switch m.draw.Intn(6) {
	case 0:
		return become(k)
	case 1:
		return spawn(k, name)
	case 2:
		return api.Act{Kind: api.ActReply, Args: made(m.draw.Intn(7), func(int) api.Expr { return m.expr(1 + m.draw.Intn(4)) })}
	}
	t := p.Tags[m.draw.Intn(len(p.Tags))]
	a := api.Act{Kind: api.ActSend, To: m.expr(api.Int), Name: t.Name}
	for _, kind := range t.Types {
		a.Args = append(a.Args, m.expr(kind))
	}
	return a
}

// spot is a place in a program at which something else may be put, in so many ways.
type spot struct {
	ways int
	put  func(way int)
}

func spotOf[T any](to *T, others []T) spot {
	return spot{len(others), func(way int) { *to = others[way] }}
}

// spotOfList is a list, of which things are taken or stand there again.
func spotOfList[T any](to *[]T) spot {
	l := *to
	if len(l) == 0 {
		return spot{1, func(int) { *to = make([]T, 1) }}
	}
	return spot{7, func(way int) {
		switch way {
		case 0:
			*to = nil
		case 1:
			*to = l[1:]
		case 2:
			*to = l[:len(l)-1]
		case 3:
			*to = append(l, l[0])
		case 4:
			*to = append(slices.Clone(l[len(l)-1:]), l...)
		case 5:
			*to = slices.Repeat(l, 13)
		default:
			*to = append(l[:len(l)-1], *new(T))
		}
	}}
}

// What is put into spots: made once, as it is asked for often.
var (
	someNames = otherNames()
	someExprs = otherExprs()
)

func otherNames() []string {
	return []string{"", "_", "self", "n", "m", "x", "re", "int", "true", "n0", "n1", "n2", "v0", "v1", "v2", "v3", "tag", "spawn", "a b", "9", times(33, "n"), times(32, "n"), "a\xff"}
}

func otherExprs() []api.Expr {
	l := append(exprs("1", "1p0", "comp(1p0, 0p0)", `"a"`, "true", "self", "v0", "v1", "v2 == v3", "n", "1 + 1p0", "self < 1", "-true"), api.Expr{})
	for _, w := range wrongExprs()[:10] {
		l = append(l, w.e)
	}
	return l
}

// spots are all the spots of a program.
func spots(p *api.Program) []spot {
	names, numbers, all := someNames, []int{0, -1, 1, 2, 3, 4, 5, 6}, someExprs
	l := []spot{spotOfList(&p.Tags), spotOfList(&p.Kinds)}
	for i := range p.Tags {
		t := &p.Tags[i]
		l = append(l, spotOf(&t.Name, names), spotOfList(&t.Types))
		for j := range t.Types {
			l = append(l, spotOf(&t.Types[j], numbers))
		}
	}
	for i := range p.Kinds {
		k := &p.Kinds[i]
		l = append(l, spotOf(&k.Name, names), spotOfList(&k.Chords))
		for j := range k.Chords {
			c := &k.Chords[j]
			l = append(l, spotOf(&c.Name, names), spotOfList(&c.Parts), spotOf(&c.Guard, all), spotOfList(&c.Body))
			for x := range c.Parts {
				l = append(l, spotOf(&c.Parts[x].Tag, names), spotOfList(&c.Parts[x].Vars))
				for y := range c.Parts[x].Vars {
					l = append(l, spotOf(&c.Parts[x].Vars[y], names))
				}
			}
			for x := range c.Body {
				a := &c.Body[x]
				l = append(l, spotOf(&a.Kind, numbers), spotOf(&a.To, all), spotOf(&a.Name, names), spotOf(&a.Var, names), spotOfList(&a.Args))
				for y := range a.Args {
					l = append(l, spotOf(&a.Args[y], all))
				}
			}
		}
	}
	return l
}

// eachChange goes over drawn programs with a change at each spot, and now and then a second one.
func eachChange(seed, n, often int, yield func(p api.Program)) {
	for i := range n {
		m := newMaker(seed + i)
		p := m.program()
		for s := range spots(&p) {
			for range often {
				q := clonedProgram(p)
				l := spots(&q)
				l[s].put(m.draw.Intn(l[s].ways))
				if m.draw.Intn(3) == 0 {
					other := spots(&q)
					k := m.draw.Intn(len(other))
					other[k].put(m.draw.Intn(other[k].ways))
				}
				yield(q)
			}
		}
	}
}

// P9.1: drawn programs may be; with a breach put into them at each place they are as the reference says.
func TestDrawn(t *testing.T) {
	t.Parallel()
	for i := range 500 {
		wantMay(t, newMaker(i).program())
	}
	found := map[[2]int]int{}
	eachChange(1000, 60, 2, func(p api.Program) {
		if t.Failed() {
			return
		}
		at, fault := wantReference(t, p)
		found[[2]int{at.In, int(fault)}]++
	})
	for in, faults := range map[int][]api.Errno{
		0: {api.OK}, valid.InTags: {api.ErrTags}, valid.InKinds: {api.ErrKinds}, valid.InTag: {api.ErrName, api.ErrTwice, api.ErrFields}, valid.InKind: {api.ErrName, api.ErrTwice, api.ErrChords}, valid.InChord: {api.ErrName, api.ErrTwice, api.ErrParts},
		valid.InPart: {api.ErrNoTag, api.ErrFields}, valid.InVar: {api.ErrName, api.ErrTwice}, valid.InGuard: {api.ErrType, api.ErrName, api.ErrExpr, api.ErrNodes, api.ErrDepth}, valid.InBody: {api.ErrBody},
		valid.InAct: {api.ErrBody, api.ErrType, api.ErrName, api.ErrExpr, api.ErrNodes, api.ErrDepth, api.ErrNoTag, api.ErrFields, api.ErrNoKind, api.ErrTwice}, valid.InArg: {api.ErrType, api.ErrName, api.ErrExpr, api.ErrNodes, api.ErrDepth},
	} {
		for _, fault := range faults {
			if n := found[[2]int{in, int(fault)}]; n < 20 {
				complain(t, "just %d of the place %d and %v", n, in, fault)
			}
		}
	}
}

// taken is a list without one of its things.
func taken[T any](l []T, i int) []T { return slices.Delete(slices.Clone(l), i, i+1) }

// P9.4: a program that may be may be with its kinds and tags in other orders, and without any one of its chords, acts but spawns, and guards.
func TestOtherOrders(t *testing.T) {
	t.Parallel()
	want := func(p api.Program, do func(p *api.Program)) {
		if q := changed(p, do); !t.Failed() {
			wantMay(t, q)
		}
	}
	for i := range 400 {
		m := newMaker(2000 + i)
		p := m.program()
		for range 3 {
			want(p, func(p *api.Program) {
				m.draw.Shuffle(len(p.Tags), func(i, j int) { p.Tags[i], p.Tags[j] = p.Tags[j], p.Tags[i] })
			})
			want(p, func(p *api.Program) {
				m.draw.Shuffle(len(p.Kinds), func(i, j int) { p.Kinds[i], p.Kinds[j] = p.Kinds[j], p.Kinds[i] })
			})
		}
		want(p, func(p *api.Program) { slices.Reverse(p.Tags); slices.Reverse(p.Kinds) })
		for k := range p.Kinds {
			for c := range p.Kinds[k].Chords {
				want(p, func(p *api.Program) { p.Kinds[k].Chords = taken(p.Kinds[k].Chords, c) })
				want(p, func(p *api.Program) { p.Kinds[k].Chords[c].Guard = api.Expr{} })
				for a, act := range p.Kinds[k].Chords[c].Body {
					if act.Kind != api.ActSpawn {
						want(p, func(p *api.Program) { p.Kinds[k].Chords[c].Body = taken(p.Kinds[k].Chords[c].Body, a) })
					}
				}
			}
		}
	}
}

// orders are all orders of a list.
func orders[T any](l []T) [][]T {
	if len(l) == 0 {
		return [][]T{nil}
	}
	var all [][]T
	for i := range l {
		for _, rest := range orders(taken(l, i)) {
			all = append(all, append([]T{l[i]}, rest...))
		}
	}
	return all
}

// P9.4: one program with its tags, and its kinds, in all orders; each chord's variables are the same in each.
func TestAllOrders(t *testing.T) {
	p := parsed(t, orderText)
	wanted := valid.Fields(p, p.Kinds[1].Chords[0])
	tags, kinds := orders(p.Tags), orders(p.Kinds)
	for i, l := range tags {
		q := api.Program{Tags: l, Kinds: kinds[i%len(kinds)]}
		if at, fault := valid.Check(q); at != (valid.Place{}) || fault != api.OK {
			complain(t, "%+v, %v: %s", at, fault, told(q))
		}
		if vars := valid.Fields(q, p.Kinds[1].Chords[0]); !slices.Equal(vars, wanted) {
			complain(t, "Fields: %+v; want %+v: %s", vars, wanted, told(q))
		}
	}
	if len(tags) != 720 || len(kinds) != 24 {
		t.Errorf("%d orders of the tags, %d of the kinds", len(tags), len(kinds))
	}
}

// wantTyped holds an expression against a type, by types.Of.
func wantTyped(t *testing.T, e api.Expr, vars []api.Field, wanted int) {
	t.Helper()
	if kind, fault := types.Of(e, vars); kind != wanted || fault != api.OK {
		complain(t, "%s over %v: %d, %v; want %d", toldExpr(e), vars, kind, fault, wanted)
	}
}

// wantWellTyped holds what P9.5 says of a program that may be.
func wantWellTyped(t *testing.T, p api.Program) {
	t.Helper()
	for _, k := range p.Kinds {
		for _, c := range k.Chords {
			vars := valid.Fields(p, c)
			if len(c.Guard.Nodes) > 0 {
				wantTyped(t, c.Guard, vars, api.Bool)
			}
			for _, a := range c.Body {
				_, isTag := valid.Tag(p, a.Name)
				_, isKind := valid.Kind(p, a.Name)
				switch a.Kind {
				case api.ActSend:
					if !isTag {
						complain(t, "the tag %q is not there: %s", a.Name, told(p))
						return
					}
					wantTyped(t, a.To, vars, api.Int)
					kinds, _ := refTypes(p, a.Name)
					for i, e := range a.Args {
						wantTyped(t, e, vars, kinds[i])
					}
					continue
				case api.ActReply:
					isKind = true
				case api.ActSpawn:
					vars = append(vars, field(a.Var, api.Int))
				}
				if !isKind {
					complain(t, "the kind %q is not there: %s", a.Name, told(p))
				}
			}
		}
	}
}

// P9.5: of what Check takes each expression has the type that is wanted there, and each name is there; drawn programs, and changed ones that may be.
func TestWellTyped(t *testing.T) {
	t.Parallel()
	for i := range 300 {
		p := newMaker(3000 + i).program()
		wantMay(t, p)
		wantWellTyped(t, p)
	}
	n := 0
	eachChange(4000, 40, 4, func(p api.Program) {
		if _, fault := valid.Check(p); fault == api.OK && !t.Failed() {
			n++
			wantWellTyped(t, p)
		}
	})
	if n < 500 {
		t.Errorf("just %d may be", n)
	}
}

// P9.2: Fields of chords of changed programs, held against the reference.
func TestDrawnFields(t *testing.T) {
	t.Parallel()
	eachChange(5000, 40, 1, func(p api.Program) {
		for _, k := range p.Kinds {
			for _, c := range k.Chords {
				if l, wanted := valid.Fields(p, c), refFields(p, c, 0); !slices.Equal(l, wanted) && !t.Failed() {
					complain(t, "%+v; want %+v: %s", l, wanted, told(p))
				}
			}
		}
	})
}

// wantWithin holds a place against what there is in a program: its numbers are those of things that are there, and 0 where it is in none.
func wantWithin(t *testing.T, p api.Program, at valid.Place) {
	t.Helper()
	if !slices.Contains(refPlaces(p), at) {
		complain(t, "%+v is none of the program's: %s", at, told(p))
	}
}

// P9.6: the place is the program's, and stays the same without what stands behind it: step by step, and all at once.
func TestBehind(t *testing.T) {
	t.Parallel()
	n := 0
	eachChange(6000, 20, 2, func(p api.Program) {
		at, fault := valid.Check(p)
		if fault == api.OK || t.Failed() {
			return
		}
		n++
		wantWithin(t, p, at)
		cut := clonedProgram(p)
		for k := len(p.Kinds) - 1; k > at.Kind; k-- {
			cut.Kinds[k].Chords = nil
			wantBreach(t, cut, at, fault)
		}
		if at.In >= valid.InChord {
			k := &cut.Kinds[at.Kind]
			for len(k.Chords) > at.Chord+1 {
				k.Chords = k.Chords[:len(k.Chords)-1]
				wantBreach(t, cut, at, fault)
			}
		}
		if at.In >= valid.InAct {
			c := &cut.Kinds[at.Kind].Chords[at.Chord]
			for len(c.Body) > at.Act+1 {
				c.Body = c.Body[:len(c.Body)-1]
				wantBreach(t, cut, at, fault)
			}
			q := clonedProgram(p)
			q.Kinds[at.Kind].Chords[at.Chord].Body = c.Body
			wantBreach(t, q, at, fault)
		}
	})
	if n < 1500 {
		t.Errorf("just %d may not be", n)
	}
}

// P0.1: whatever is handed in, each call ends, and tells a place of the program.
func TestJunk(t *testing.T) {
	t.Parallel()
	for i := range 3000 {
		m := newMaker(7000 + i)
		p := m.program()
		for range 1 + m.draw.Intn(12) {
			l := spots(&p)
			k := m.draw.Intn(len(l))
			l[k].put(m.draw.Intn(l[k].ways))
		}
		if at, fault := wantReference(t, p); fault != api.OK {
			wantWithin(t, p, at)
		}
		for _, name := range someNames {
			i, is := valid.Tag(p, name)
			if wanted := slices.IndexFunc(p.Tags, func(t api.Tag) bool { return t.Name == name }); i != max(wanted, 0) || is != (wanted >= 0) {
				complain(t, "Tag %q: %d, %v; want %d: %s", name, i, is, wanted, told(p))
			}
			i, is = valid.Kind(p, name)
			if wanted := slices.IndexFunc(p.Kinds, func(k api.Kind) bool { return k.Name == name }); i != max(wanted, 0) || is != (wanted >= 0) {
				complain(t, "Kind %q: %d, %v; want %d: %s", name, i, is, wanted, told(p))
			}
		}
		if t.Failed() {
			t.FailNow()
		}
	}
}

// P9.7: calls beside one another answer what each would answer alone.
func TestBeside(t *testing.T) {
	var l []api.Program
	eachChange(8000, 8, 1, func(p api.Program) { l = append(l, p) })
	var group sync.WaitGroup
	for range 8 {
		group.Go(func() {
			for _, p := range l {
				if wantReference(t, p); t.Failed() {
					return
				}
			}
		})
	}
	group.Wait()
}
