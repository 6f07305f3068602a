package store_test

import (
	"fmt"
	"strings"
	"testing"

	"proctor/api"
	"proctor/class"
	"proctor/store"
	"proctor/value"
)

var none api.Value

func num(n int64) api.Value         { return api.Value{Kind: api.VInt, Int: n} }
func text(s string) api.Value       { return api.Value{Kind: api.VText, Text: s} }
func truth(b bool) api.Value        { return api.Value{Kind: api.VBool, Bool: b} }
func handle(n int64) api.Value      { return api.Value{Kind: api.VFact, Int: n} }
func list(l ...api.Value) api.Value { return api.Value{Kind: api.VList, List: l} }

// family has a way up of three classes, one class beside it without a field, one that refers to itself and lies above another.
func family() []api.Class {
	return []api.Class{
		{Name: "A", Fields: []api.Field{{Name: "x", Type: api.TInt}, {Name: "l", Type: api.TList}}},
		{Name: "E", Fields: []api.Field{{Name: "s", Type: api.TRef, Class: "E"}, {Name: "x"}}},
		{Name: "B", Super: "A", Fields: []api.Field{{Name: "r", Type: api.TRef, Class: "B"}}},
		{Name: "C"},
		{Name: "D", Super: "B", Fields: []api.Field{{Name: "b", Type: api.TBool}, {Name: "t", Type: api.TText}}},
		{Name: "F", Super: "E"},
	}
}

func table(t *testing.T, l []api.Class) *class.Table {
	t.Helper()
	a, err := class.New(l)
	if err != api.OK {
		t.Fatalf("no table: %d", err)
	}
	return a
}

func made(t *testing.T, most int) *store.Store {
	t.Helper()
	s, err := store.New(table(t, family()), most)
	if err != api.OK || s == nil {
		t.Fatalf("no store for %d: %d", most, err)
	}
	return s
}

func given(field string, v api.Value) api.Given { return api.Given{Field: field, V: v} }

func set(l ...api.Given) []api.Given { return l }

// x is what sets the field x to n.
func x(n int64) []api.Given { return set(given("x", num(n))) }

func insert(t *testing.T, s *store.Store, name string, l ...api.Given) int {
	t.Helper()
	h, err := s.Insert(name, l, true)
	if err != api.OK {
		t.Fatalf("Insert(%s): %d", name, err)
	}
	return h
}

func update(t *testing.T, s *store.Store, handle int, l ...api.Given) uint64 {
	t.Helper()
	mask, err := s.Update(handle, l)
	if err != api.OK {
		t.Fatalf("Update(%d): %d", handle, err)
	}
	return mask
}

func remove(t *testing.T, s *store.Store, handle int) {
	t.Helper()
	if err := s.Delete(handle); err != api.OK {
		t.Fatalf("Delete(%d): %d", handle, err)
	}
}

// line writes a fact: `#1 A [5 null] [1 1] 1 true`.
func line(f api.Fact) string {
	var vals []string
	for _, v := range f.Vals {
		vals = append(vals, value.Text(v))
	}
	return fmt.Sprint("#", f.Handle, " ", f.Class, " ", vals, " ", f.Stamps, " ", f.Born, " ", f.Stated)
}

func fact(s *store.Store, handle int) string {
	f, ok := s.Get(handle)
	if !ok {
		return "none"
	}
	return line(f)
}

// told gathers all that a store tells, a question a line.
func told(s *store.Store) string {
	var out strings.Builder
	fmt.Fprintln(&out, "clock", s.Clock(), "facts", s.Len())
	for _, f := range s.All() {
		fmt.Fprintln(&out, line(f), s.Equal(f.Class, f.Vals), fact(s, f.Handle) == line(f))
	}
	for _, c := range family() {
		fmt.Fprintln(&out, c.Name, s.Extent(c.Name))
	}
	return out.String()
}

// barred has values that fit no field: they may not be.
func barred() []api.Value {
	deep := list()
	for range api.MaxDeep {
		deep = list(deep)
	}
	return []api.Value{
		{Kind: -1}, {Kind: 6}, {Int: 1}, {Kind: api.VBool, Int: 1}, {Kind: api.VInt, Int: 5, Text: "5"}, {Kind: api.VText, Bool: true},
		{Kind: api.VList, Int: 1}, handle(0), handle(-1), list(handle(0)), deep,
		text(strings.Repeat("a", api.MaxString+1)), list(make([]api.Value, api.MaxList+1)...),
	}
}

// wide has a store with a class W of as many fields as may be, and what sets each to its number.
func wide(t *testing.T) (*store.Store, []api.Given) {
	t.Helper()
	c := api.Class{Name: "W"}
	var l []api.Given
	for i := range api.MaxFields {
		name := fmt.Sprint("f", i)
		c.Fields = append(c.Fields, api.Field{Name: name})
		l = append(l, given(name, num(int64(i))))
	}
	s, err := store.New(table(t, []api.Class{c}), 10)
	if err != api.OK {
		t.Fatal(err)
	}
	return s, l
}
