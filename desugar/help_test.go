package desugar_test

import (
	"fmt"
	"reflect"
	"strings"
	"testing"

	"proctor/api"
	"proctor/desugar"
	"proctor/parse"
)

func read(t *testing.T, s string) api.Base {
	t.Helper()
	b, at, err := parse.Parse(s)
	if err != api.OK {
		t.Fatalf("%.2000s: %d at %d", s, err, at)
	}
	return b
}

// conds reads conditions.
func conds(t *testing.T, s string) []api.Cond {
	t.Helper()
	return read(t, `rule "r" when `+s+` then end`).Rules[0].When
}

// fact is a pattern of a class.
func fact(class string) api.Cond { return api.Cond{Kind: api.CFact, Class: class} }

// list writes a list of conditions out.
func list(l ...api.Cond) []api.Cond { return l }

func or(alts ...[]api.Cond) api.Cond { return api.Cond{Kind: api.COr, Alts: alts} }

func within(kind int, l ...api.Cond) api.Cond { return api.Cond{Kind: kind, Conds: l} }

func forall(conds, then []api.Cond) api.Cond {
	return api.Cond{Kind: api.CForall, Conds: conds, Then: then}
}

// short writes conditions: P of a pattern, !(..) of a not, E(..) of an exists, A(..;..) of a forall, (..|..) of an or, S(..) of an acc; of what else there is its kind.
func short(l []api.Cond) string {
	var out []string
	for _, c := range l {
		switch c.Kind {
		case api.CFact:
			out = append(out, c.Class)
		case api.CNot:
			out = append(out, "!("+short(c.Conds)+")")
		case api.CExists:
			out = append(out, "E("+short(c.Conds)+")")
		case api.CForall:
			out = append(out, "A("+short(c.Conds)+";"+short(c.Then)+")")
		case api.COr:
			out = append(out, "("+strings.ReplaceAll(shorts(c.Alts), " | ", "|")+")")
		case api.CAcc:
			out = append(out, "S("+short(c.Conds)+")")
		default:
			out = append(out, fmt.Sprint(c.Kind))
		}
	}
	return strings.Join(out, " ")
}

func shorts(l [][]api.Cond) string {
	var out []string
	for _, x := range l {
		out = append(out, short(x))
	}
	return strings.Join(out, " | ")
}

// gives asks for the alternatives of conditions; each is a core that is its own one alternative.
func gives(t *testing.T, l []api.Cond, want string) {
	t.Helper()
	alts, err := desugar.Conds(l)
	if err != api.OK || shorts(alts) != want {
		t.Errorf("%.500s: %.1000s, %d instead of %.1000s", short(l), shorts(alts), err, want)
	}
	for _, alt := range alts {
		if !desugar.Core(alt) {
			t.Errorf("%.500s: %s is no core", short(l), short(alt))
		}
		if again, err := desugar.Conds(alt); err != api.OK || len(again) != 1 || !same(again[0], alt) {
			t.Errorf("%.500s: of %s again %s, %d", short(l), short(alt), shorts(again), err)
		}
	}
}

// refuses asks that there are no alternatives.
func refuses(t *testing.T, what string, l []api.Cond) {
	t.Helper()
	if alts, err := desugar.Conds(l); err != api.ErrArg || alts != nil {
		t.Errorf("%.500s: %.500s, %d", what, shorts(alts), err)
	}
}

// takes asks that there are so many alternatives.
func takes(t *testing.T, what string, l []api.Cond, n int) {
	t.Helper()
	if alts, err := desugar.Conds(l); err != api.OK || len(alts) != n {
		t.Errorf("%.500s: %d of them, %d instead of %d", what, len(alts), err, n)
	}
}

// same tells whether lists have the same in them; nil and empty ones are one.
func same(a, b any) bool {
	return reflect.DeepEqual(plain(reflect.ValueOf(a)).Interface(), plain(reflect.ValueOf(b)).Interface())
}

// plain tells a copy of v with nil for each empty list.
func plain(v reflect.Value) reflect.Value {
	c := reflect.New(v.Type()).Elem()
	switch v.Kind() {
	case reflect.Struct:
		for i := range v.NumField() {
			c.Field(i).Set(plain(v.Field(i)))
		}
	case reflect.Slice:
		for i := range v.Len() {
			c.Set(reflect.Append(c, plain(v.Index(i))))
		}
	default:
		c.Set(v)
	}
	return c
}
