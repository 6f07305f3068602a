package class_test

import (
	"slices"
	"strings"
	"testing"

	"proctor/api"
	"proctor/class"
)

// strangers has names that are no class of family.
func strangers() []string {
	return []string{"", "a", "H", "AB", "x", "z", "A ", "class", "\xff", strings.Repeat("A", 1<<16)}
}

// P2.1: Has tells the table's classes and no others.
func TestHas(t *testing.T) {
	a := table(t, family())
	for _, c := range family() {
		if !a.Has(c.Name) {
			t.Errorf("%s is a class", c.Name)
		}
	}
	for _, s := range strangers() {
		if a.Has(s) {
			t.Errorf("%.20q is no class", s)
		}
	}
	if table(t, nil).Has("A") || table(t, nil).Has("") {
		t.Error("an empty table has no class")
	}
}

// P2.1: Fields tells those of the super first, then a class's own, with all that is theirs.
func TestFields(t *testing.T) {
	a := table(t, family())
	for name, want := range map[string]string{
		"A": "x:int y:D", "B": "x:int y:D z:bool", "C": "", "D": "x:int y:D z:bool w:A v:list", "E": "x:text", "F": "x:int y:D z:int",
		"G": "x:int y:D z:bool w:A v:list u:G",
	} {
		if got, err := a.Fields(name); !slices.Equal(got, fields(want)) || err != api.OK {
			t.Errorf("%s: %v, %d", name, got, err)
		}
	}
	for _, s := range strangers() {
		if got, err := a.Fields(s); got != nil || err != api.ErrClass {
			t.Errorf("%.20q: %v, %d", s, got, err)
		}
	}
}

// P2.1: Index tells a field's number among all fields of the class.
func TestIndex(t *testing.T) {
	a := table(t, family())
	for _, c := range []struct {
		name, field string
		want        int
		err         api.Errno
	}{
		{"A", "x", 0, api.OK}, {"A", "y", 1, api.OK}, {"B", "x", 0, api.OK}, {"B", "z", 2, api.OK}, {"D", "z", 2, api.OK}, {"D", "w", 3, api.OK},
		{"D", "v", 4, api.OK}, {"E", "x", 0, api.OK}, {"F", "z", 2, api.OK}, {"G", "u", 5, api.OK},
		{"A", "z", 0, api.ErrField}, {"B", "w", 0, api.ErrField}, {"F", "w", 0, api.ErrField}, {"C", "x", 0, api.ErrField}, {"A", "", 0, api.ErrField},
		{"A", "X", 0, api.ErrField}, {"A", "A", 0, api.ErrField}, {"A", "xy", 0, api.ErrField}, {"C", "", 0, api.ErrField}, {"E", "y", 0, api.ErrField},
		{"H", "x", 0, api.ErrClass}, {"", "x", 0, api.ErrClass}, {"", "", 0, api.ErrClass}, {"x", "x", 0, api.ErrClass}, {"H", "nothing", 0, api.ErrClass},
	} {
		if got, err := a.Index(c.name, c.field); got != c.want || err != c.err {
			t.Errorf("Index(%q, %q): %d, %d", c.name, c.field, got, err)
		}
	}
}

// P2.2: Is tells all that lies upwards, and nothing else.
func TestIs(t *testing.T) {
	a := table(t, family())
	up := map[string]string{"A": "A", "B": "B A", "C": "C", "D": "D B A", "E": "E C", "F": "F A", "G": "G D B A"}
	for name, above := range up {
		for of := range up {
			if a.Is(name, of) != slices.Contains(strings.Fields(above), of) {
				t.Errorf("Is(%s, %s)", name, of)
			}
		}
	}
	for _, s := range strangers() {
		if a.Is(s, s) || a.Is(s, "A") || a.Is("A", s) || a.Is("D", s) || a.Is("C", s) {
			t.Errorf("Is of %.20q", s)
		}
	}
}

// P2.2: Subs tells the classes below in the table's order, wherever they stand.
func TestSubs(t *testing.T) {
	a := table(t, family())
	for name, want := range map[string]string{"A": "A B D F G", "B": "B D G", "C": "C E", "D": "D G", "E": "E", "F": "F", "G": "G"} {
		if got, err := a.Subs(name); !slices.Equal(got, strings.Fields(want)) || err != api.OK {
			t.Errorf("%s: %v, %d", name, got, err)
		}
	}
	for _, s := range strangers() {
		if got, err := a.Subs(s); got != nil || err != api.ErrClass {
			t.Errorf("%.20q: %v, %d", s, got, err)
		}
	}
	b := table(t, classes("Z", "M Z", "A M", "K Z", "B A"))
	if got, _ := b.Subs("Z"); strings.Join(got, " ") != "Z M A K B" {
		t.Errorf("the table's order: %v", got)
	}
}

// P2.2: Mask has a bit for each of the fields, however often it is named.
func TestMask(t *testing.T) {
	a := table(t, family())
	for _, c := range []struct {
		name, fields string
		want         uint64
		err          api.Errno
	}{
		{"A", "", 0, api.OK}, {"C", "", 0, api.OK}, {"A", "x", 1, api.OK}, {"A", "y", 2, api.OK}, {"A", "y x", 3, api.OK}, {"A", "x x x", 1, api.OK},
		{"D", "z z x", 5, api.OK}, {"D", "w x w", 9, api.OK}, {"D", "x y z w v", 31, api.OK}, {"D", "v w z y x x", 31, api.OK}, {"G", "u", 32, api.OK},
		{"A", "z", 0, api.ErrField}, {"A", "x z", 0, api.ErrField}, {"A", "z x", 0, api.ErrField}, {"C", "x", 0, api.ErrField}, {"D", "x y z w v u", 0, api.ErrField},
		{"H", "", 0, api.ErrClass}, {"H", "x", 0, api.ErrClass}, {"", "", 0, api.ErrClass}, {"", "x", 0, api.ErrClass},
	} {
		if got, err := a.Mask(c.name, strings.Fields(c.fields)); got != c.want || err != c.err {
			t.Errorf("Mask(%q, %q): %d, %d", c.name, c.fields, got, err)
		}
	}
	if got, err := a.Mask("A", []string{"x", ""}); got != 0 || err != api.ErrField {
		t.Errorf("the empty field: %d, %d", got, err)
	}
}

// P2.2: the bits of as many fields as may be, each for itself and all together.
func TestMaskMost(t *testing.T) {
	a := table(t, classes("A -"+many("f", 40), "B A"+many("g", 22)))
	l, err := a.Fields("B")
	if len(l) != api.MaxFields || err != api.OK {
		t.Fatal(len(l), err)
	}
	all := strings.Fields(names(l))
	for i, f := range all {
		if got, err := a.Mask("B", []string{f}); got != uint64(1)<<i || err != api.OK {
			t.Errorf("%s: %d, %d", f, got, err)
		}
	}
	if got, err := a.Mask("B", all); got != 1<<62-1 || err != api.OK {
		t.Errorf("all: %d, %d", got, err)
	}
	if got, err := a.Mask("B", slices.Repeat(all, 100)); got != 1<<62-1 || err != api.OK {
		t.Errorf("all, many times: %d, %d", got, err)
	}
}

// tables has many shapes of ways up: each class but the first stands below any of those ahead, or below none.
func tables() [][]api.Class {
	out := [][]api.Class{nil}
	for i, name := range []string{"A", "B", "C", "D", "E"} {
		var next [][]api.Class
		for _, l := range out {
			own := fields("f" + name + " g" + name + ":int")
			next = append(next, append(slices.Clone(l), api.Class{Name: name, Fields: own}))
			for _, above := range l[:i] {
				next = append(next, append(slices.Clone(l), api.Class{Name: name, Super: above.Name, Fields: own[:i%3]}))
			}
		}
		out = next
	}
	return out
}

// P2.4: Is is an order, upwards: each is itself, no two are one another, what is above one above is above.
func TestOrder(t *testing.T) {
	for _, l := range tables() {
		a := table(t, l)
		for _, x := range l {
			if !a.Is(x.Name, x.Name) || x.Super != "" && !a.Is(x.Name, x.Super) {
				t.Errorf("%v: %s", l, x.Name)
			}
			for _, y := range l {
				if x.Name != y.Name && a.Is(x.Name, y.Name) && a.Is(y.Name, x.Name) {
					t.Errorf("%v: %s and %s are one another", l, x.Name, y.Name)
				}
				for _, z := range l {
					if a.Is(x.Name, y.Name) && a.Is(y.Name, z.Name) && !a.Is(x.Name, z.Name) {
						t.Errorf("%v: %s, %s, %s", l, x.Name, y.Name, z.Name)
					}
				}
			}
		}
	}
}

// P2.4: a class's fields begin with its super's, at the same numbers; behind them stand its own; Index and Mask tell these numbers.
func TestNumbers(t *testing.T) {
	for _, l := range tables() {
		a := table(t, l)
		for _, c := range l {
			var above []api.Field
			if c.Super != "" {
				above, _ = a.Fields(c.Super)
			}
			all, err := a.Fields(c.Name)
			if err != api.OK || !slices.Equal(all, slices.Concat(above, c.Fields)) {
				t.Fatalf("%v: %s: %v", l, c.Name, all)
			}
			for i, f := range all {
				n, err := a.Index(c.Name, f.Name)
				mask, bad := a.Mask(c.Name, []string{f.Name})
				if n != i || err != api.OK || mask != 1<<i || bad != api.OK {
					t.Errorf("%v: %s.%s: %d, %d", l, c.Name, f.Name, n, mask)
				}
			}
		}
	}
}

// The chapter's example.
func TestExample(t *testing.T) {
	a, err := class.New(classes("A - x:int", "B A y:text"))
	if err != api.OK {
		t.Fatal(err)
	}
	l, _ := a.Fields("B")
	mask, _ := a.Mask("B", []string{"y"})
	subs, _ := a.Subs("A")
	if names(l) != "x y" || mask != 2 || !a.Is("B", "A") || strings.Join(subs, " ") != "A B" {
		t.Error(l, mask, subs)
	}
}
