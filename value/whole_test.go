package value_test

import (
	"strings"
	"testing"
	"unsafe"

	"chordmail/api"
	"chordmail/value"
)

// P2.6: from Print to Parse and back.
func TestThereAndBack(t *testing.T) {
	for i, v := range append(edgeValues(), lotValues(3, 20000)...) {
		v = dressed(v, int64(i))
		s := value.Print(v)
		back, e := value.Parse(s)
		if e != api.OK || !value.Same(back, v) || !exactly(back, value.Plain(v)) {
			t.Fatalf("%v is printed as %q, and read as %v, %v", v, s, back, e)
		}
	}
	allTexts(func(s string) {
		v, e := value.Parse(s)
		if e == api.OK && (!value.May(v) || !exactly(value.Plain(v), v) || value.Print(v) != s) {
			t.Fatalf("%q is read as %v, and printed as %q", s, v, value.Print(v))
		}
	})
}

// lotWithNever are values of every sort, some of which may not be, with other fields than the kind's filled too.
func lotWithNever(seed int64, many int) []api.Value {
	l := append(lotValues(seed, many), never()...)
	l = append(l, inOrder()[:40]...)
	for _, f := range otherNaNs() {
		l = append(l, scaled(f), pair(f, 0), pair(0, f))
	}
	for i := range l {
		l[i] = dressed(l[i], int64(i))
	}
	return l
}

// P2.6: the same just if the texts are the same.
func TestSameByTexts(t *testing.T) {
	l := lotWithNever(5, 600)
	alike := 0
	for i, a := range l {
		for _, b := range l[:i] {
			if !value.May(a) || !value.May(b) {
				continue
			}
			same, texts := value.Same(a, b), value.Print(a) == value.Print(b)
			if same != texts {
				t.Fatalf("Same of %v and %v: %v; the texts %q, %q", a, b, same, value.Print(a), value.Print(b))
			}
			if same {
				alike++
			}
		}
	}
	if alike < 100 {
		t.Errorf("just %d pairs are the same", alike)
	}
}

// P2.7: the opposite the other way round, the same only if Same, and a chain.
func TestOrder(t *testing.T) {
	l := lotWithNever(6, 100)
	n := len(l)
	order := make([]int, n*n)
	for i, a := range l {
		for k, b := range l {
			order[i*n+k] = value.Compare(a, b)
			if o := order[i*n+k]; o < -1 || o > 1 || value.Compare(b, a) != -o || value.Same(a, b) != (o == 0) {
				t.Fatalf("Compare of %v and %v: %d; of the second and the first: %d", a, b, o, value.Compare(b, a))
			}
		}
	}
	for i := range n {
		for k := range n {
			for j := range n {
				if order[i*n+k] <= 0 && order[k*n+j] <= 0 && order[i*n+j] > 0 {
					t.Fatalf("%v, %v and %v are no chain", l[i], l[k], l[j])
				}
			}
		}
	}
}

// within tells whether the bytes of a stand in those of b.
func within(a, b string) bool {
	from, at := uintptr(unsafe.Pointer(unsafe.StringData(b))), uintptr(unsafe.Pointer(unsafe.StringData(a)))
	return len(a) > 0 && at >= from && at < from+uintptr(len(b))
}

// P2.8: a text that is answered has bytes of its own.
func TestNewMemory(t *testing.T) {
	s := strings.Repeat("text", 20)
	if p := value.Plain(said(s)); within(p.Text, s) {
		t.Error("Plain answers the text's own bytes")
	}
	quoted := `"` + s + `"`
	v, _ := value.Parse(quoted)
	if again, _ := value.Parse(quoted); within(v.Text, quoted) || within(v.Text, again.Text) {
		t.Error("Parse answers the text's own bytes")
	}
	a, b := value.Print(said(s)), value.Print(said(s))
	if within(a, b) || within(a, s) {
		t.Error("Print's answers share their bytes")
	}
}
