package class_test

import (
	"slices"
	"strings"
	"sync"
	"testing"

	"proctor/api"
	"proctor/class"
)

// told gathers all that a table tells of family's classes.
func told(a *class.Table) string {
	var s strings.Builder
	for _, c := range family() {
		l, _ := a.Fields(c.Name)
		subs, _ := a.Subs(c.Name)
		s.WriteString(c.Name + ":")
		for _, f := range l {
			s.WriteString(" " + f.Name + string(rune('0'+f.Type)) + f.Class)
		}
		s.WriteString(" > " + strings.Join(subs, " ") + "\n")
	}
	return s.String()
}

// P2.5, R2: what is handed to New is not kept: a table stays as it is when the caller writes all over it.
func TestMemoryNew(t *testing.T) {
	l := family()
	a := table(t, l)
	want := told(a)
	for i := range l {
		for k := range l[i].Fields {
			l[i].Fields[k] = api.Field{Name: "spoilt", Type: 9, Class: "Z"}
		}
		l[i] = api.Class{Name: "Z", Super: "Z"}
	}
	if told(a) != want || want != told(table(t, family())) {
		t.Error("the classes are kept")
	}
}

// P2.5, R2: what is handed in is not changed, nor what lies behind a list's length.
func TestMemoryArguments(t *testing.T) {
	l := append(family(), api.Class{Name: "behind"})
	for i := range l {
		l[i].Fields = append(slices.Clone(l[i].Fields), api.Field{Name: "behind", Type: 9})
		l[i].Fields = l[i].Fields[:len(l[i].Fields)-1]
	}
	a := table(t, l[:len(l)-1])
	for i, c := range family() {
		got := l[i].Fields
		if l[i].Name != c.Name || l[i].Super != c.Super || !slices.Equal(got, c.Fields) || got[:len(got)+1][len(got)].Name != "behind" {
			t.Errorf("%s has changed", c.Name)
		}
	}
	if l[len(l)-1].Name != "behind" || a.Has("behind") || told(a) != told(table(t, family())) {
		t.Error("what lies behind the list")
	}
	asked := []string{"y", "x", "behind"}
	if mask, err := a.Mask("A", asked[:2]); mask != 3 || err != api.OK || strings.Join(asked, " ") != "y x behind" {
		t.Error(asked, mask, err)
	}
}

// P2.5, R2: one list of fields for two classes is two lists of the table.
func TestMemorySharedFields(t *testing.T) {
	shared := make([]api.Field, 0, 8)
	shared = append(shared, api.Field{Name: "x"})
	a := table(t, []api.Class{{Name: "A", Fields: shared}, {Name: "B", Fields: shared}, {Name: "C", Super: "A", Fields: fields("y")}, {Name: "D", Super: "A", Fields: fields("z")}})
	for name, want := range map[string]string{"A": "x", "B": "x", "C": "x y", "D": "x z"} {
		if l, _ := a.Fields(name); names(l) != want {
			t.Errorf("%s: %s", name, names(l))
		}
	}
	if shared[:2][1] != (api.Field{}) {
		t.Error("a list has grown in the caller's memory")
	}
}

// P2.5, R2: what is told is the caller's own, as far as its memory goes.
func TestMemoryAnswers(t *testing.T) {
	a := table(t, family())
	want := told(a)
	for _, c := range family() {
		l, _ := a.Fields(c.Name)
		l = l[:cap(l)]
		for i := range l {
			l[i] = api.Field{Name: "spoilt", Type: 9, Class: "Z"}
		}
		subs, _ := a.Subs(c.Name)
		subs = subs[:cap(subs)]
		for i := range subs {
			subs[i] = "Z"
		}
		if told(a) != want {
			t.Errorf("%s: an answer shares memory", c.Name)
		}
	}
}

// P2.5, R4: a table that may not be leaves nothing behind for the next one.
func TestMemoryBarred(t *testing.T) {
	want := told(table(t, family()))
	for range 3 {
		if a, err := class.New(append(family(), api.Class{Name: "A"})); a != nil || err != api.ErrClass {
			t.Error(err)
		}
		if told(table(t, family())) != want {
			t.Error("another table")
		}
	}
}

// P2.5, R6: many that ask one table at once are told what one is told alone.
func TestTogether(t *testing.T) {
	a := table(t, family())
	want := told(a)
	var all sync.WaitGroup
	for range 8 {
		all.Go(func() {
			for range 20 {
				if told(a) != want || !a.Fits(api.Field{Type: api.TRef, Class: "A"}, handle(2), of) {
					t.Error("told otherwise")
				}
			}
		})
	}
	all.Wait()
}
