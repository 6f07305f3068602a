package class_test

import (
	"math"
	"strconv"
	"strings"
	"testing"

	"proctor/api"
	"proctor/class"
)

// P2.1: tables that may be.
func TestNewTakes(t *testing.T) {
	for name, l := range map[string][]api.Class{
		"nothing":                     nil,
		"an empty list":               {},
		"one class without a field":   classes("A"),
		"a class above":               classes("A - x:int", "B A y:text"),
		"all types":                   classes("A - a b:any c:bool d:int e:text f:list g:A"),
		"a ref to its own class":      classes("A - x:A"),
		"a ref ahead":                 classes("A", "B - x:A"),
		"a ref to one still to come":  classes("A - x:B", "B"),
		"a ref to one above":          classes("A", "B A x:A"),
		"a ref to one below":          classes("A - x:B", "B A"),
		"one field's name twice":      classes("A - x", "B - x:int"),
		"siblings' fields alike":      classes("A - x", "B A y", "C A y"),
		"a field named like a class":  classes("A - A:int B:A", "B"),
		"a name of every kind":        classes("aZ_09 - z_A9 Z"),
		"unlike in a letter's case":   classes("a - x X", "A"),
		"nearly keywords":             classes("Rule - Class ints tex_t", "rules", "classs"),
		"as long a name as may be":    classes(strings.Repeat("a", 64) + " - " + strings.Repeat("b", 64)),
		"as many fields as may be":    classes("A -" + many("f", api.MaxFields)),
		"as many with those above":    classes("A -"+many("f", 30), "B A"+many("g", 20), "C B"+many("h", 12)),
		"all of them inherited":       classes("A -"+many("f", api.MaxFields), "B A"),
		"as many in each of siblings": classes("A -"+many("f", 32), "B A"+many("g", 30), "C A"+many("g", 30)),
	} {
		if a, err := class.New(l); a == nil || err != api.OK {
			t.Errorf("%s: %d", name, err)
		}
	}
}

// P2.1: tables that may not be.
func TestNewBars(t *testing.T) {
	of := func(f api.Field) []api.Class { return []api.Class{{Name: "A", Fields: []api.Field{f}}} }
	for name, l := range map[string][]api.Class{
		"a class twice":                 classes("A", "A"),
		"a class twice, apart":          classes("A", "B", "A A"),
		"its own super":                 classes("A A"),
		"a super that is none":          classes("A B"),
		"a super still to come":         classes("A B", "B"),
		"supers in a ring":              classes("A B", "B A"),
		"a super that is a field":       classes("A - x", "B x"),
		"a super that is no name":       {{Name: "A"}, {Name: "B", Super: " "}},
		"a field twice":                 classes("A - x x"),
		"a field twice, apart":          classes("A - x y:int x:text"),
		"a field of the super":          classes("A - x", "B A x"),
		"a field of the super, behind":  classes("A - x y", "B A z y"),
		"a field of one further up":     classes("A - x", "B A y", "C B x"),
		"a ref to no class":             classes("A - x:B"),
		"a ref to a field":              classes("A - x y:x"),
		"a ref to the empty name":       of(api.Field{Name: "x", Type: api.TRef}),
		"a bad ref in the last class":   classes("A", "B A x", "C B y:D"),
		"any with a class":              of(api.Field{Name: "x", Class: "A"}),
		"bool with a class":             of(api.Field{Name: "x", Type: api.TBool, Class: "A"}),
		"int with a class":              of(api.Field{Name: "x", Type: api.TInt, Class: "A"}),
		"text with a class":             of(api.Field{Name: "x", Type: api.TText, Class: "A"}),
		"list with a class":             of(api.Field{Name: "x", Type: api.TList, Class: "A"}),
		"list with no class of it":      of(api.Field{Name: "x", Type: api.TList, Class: "?"}),
		"a type below all":              of(api.Field{Name: "x", Type: -1}),
		"a type above all":              of(api.Field{Name: "x", Type: api.TRef + 1}),
		"a type above all with a class": of(api.Field{Name: "x", Type: api.TRef + 1, Class: "A"}),
		"the least type":                of(api.Field{Name: "x", Type: math.MinInt64}),
		"a type that wraps":             of(api.Field{Name: "x", Type: 1 << 32}),
		"one field too many":            classes("A -" + many("f", api.MaxFields+1)),
		"one too many with the super":   classes("A -"+many("f", api.MaxFields), "B A g"),
		"one too many further up":       classes("A -"+many("f", 30), "B A"+many("g", 20), "C B"+many("h", 13)),
		"very many fields":              {{Name: "A", Fields: make([]api.Field, 1<<16)}},
		"empty classes":                 make([]api.Class, 2),
		"too many empty classes":        make([]api.Class, api.MaxClasses+1),
	} {
		if a, err := class.New(l); a != nil || err != api.ErrClass {
			t.Errorf("%s: %d", name, err)
		}
	}
}

// P2.1, DOC.md's limits: as many classes as may be, and one more; in one way up, too.
func TestNewMostClasses(t *testing.T) {
	var flat, tall []api.Class
	super := ""
	for i := range api.MaxClasses + 1 {
		name := "C" + strconv.Itoa(i)
		flat = append(flat, api.Class{Name: name, Fields: fields(many("f", api.MaxFields))})
		tall = append(tall, api.Class{Name: name, Super: super})
		super = name
	}
	for _, l := range [][]api.Class{flat, tall} {
		if _, err := class.New(l[:api.MaxClasses]); err != api.OK {
			t.Errorf("as many as may be: %d", err)
		}
		if a, err := class.New(l); a != nil || err != api.ErrClass {
			t.Errorf("one more: %d", err)
		}
	}
	a := table(t, tall[:api.MaxClasses])
	if !a.Is("C63", "C0") || a.Is("C0", "C63") {
		t.Error("the longest way up")
	}
	if l, _ := a.Subs("C0"); len(l) != api.MaxClasses {
		t.Errorf("Subs: %d", len(l))
	}
}

// P2.1, DOC.md: what is no name is neither a class's nor a field's.
func TestNewNames(t *testing.T) {
	bad := []string{
		"", " ", "1", "1a", "_", "_a", "a b", "a ", " a", "a-b", "a.b", "$a", "a$", "a\x00", "\x00", "a\n",
		"\u00e9", "a\u00e9", "a\xff", "\xe1", "a@", "a[", "a`", "a{", "a/", "a:", "@", "[", "`", "{",
		strings.Repeat("a", 65), strings.Repeat("a", 1<<20),
	}
	bad = append(bad, strings.Fields("class extends rule query when then end salience group flow noloop lock not exists forall or from eval acc over insert logical update delete focus print halt true false null size has int bool text list any ref")...)
	for _, s := range bad {
		if a, err := class.New([]api.Class{{Name: "A"}, {Name: s}}); a != nil || err != api.ErrClass {
			t.Errorf("a class %.70q: %d", s, err)
		}
		if a, err := class.New([]api.Class{{Name: "A", Fields: []api.Field{{Name: "x"}, {Name: s}}}}); a != nil || err != api.ErrClass {
			t.Errorf("a field %.70q: %d", s, err)
		}
	}
	for _, s := range []string{"a", "z", "A", "Z", "a0", "a9", "a_", "aA", "aZ", "az", "main", "count", "ruler", "END", "x_y_z"} {
		if _, err := class.New([]api.Class{{Name: s, Fields: []api.Field{{Name: s}}}}); err != api.OK {
			t.Errorf("%q: %d", s, err)
		}
	}
}
