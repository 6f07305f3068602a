package store_test

import (
	"fmt"
	"math"
	"reflect"
	"strings"
	"testing"

	"proctor/api"
)

// P3.4: Get tells a fact whole, or nothing.
func TestGet(t *testing.T) {
	s := made(t, 5)
	insert(t, s, "A", x(5)...)
	insert(t, s, "C")
	remove(t, s, 2)
	insert(t, s, "C")
	want := api.Fact{Handle: 1, Class: "A", Vals: []api.Value{num(5), none}, Stated: true, Born: 1, Stamps: []int{1, 1}}
	if f, ok := s.Get(1); !ok || !reflect.DeepEqual(f, want) {
		t.Errorf("%v, %v", f, ok)
	}
	if f, ok := s.Get(3); !ok || !reflect.DeepEqual(f, api.Fact{Handle: 3, Class: "C", Stated: true, Born: 4}) {
		t.Errorf("a fact without a field: %v, %v", f, ok)
	}
	for _, h := range []int{0, -1, 2, 4, 1<<32 + 1, math.MaxInt64, math.MinInt64} {
		if f, ok := s.Get(h); ok || !reflect.DeepEqual(f, api.Fact{}) {
			t.Errorf("Get(%d): %v", h, f)
		}
	}
}

// P3.4, P3.5: an extent has the class's facts and those of its subclasses, rising, however they are mixed and whichever go.
func TestExtent(t *testing.T) {
	s := made(t, 20)
	extents := func(want string) {
		t.Helper()
		var got []string
		for _, c := range strings.Fields("A B D C E F") {
			got = append(got, c+strings.Trim(fmt.Sprint(s.Extent(c)), "[]"))
		}
		if strings.Join(got, "; ") != want {
			t.Errorf("%s; not %s", strings.Join(got, "; "), want)
		}
	}
	extents("A; B; D; C; E; F")
	for _, name := range strings.Fields("D A B A C F D B A E D C") {
		insert(t, s, name)
	}
	extents("A1 2 3 4 7 8 9 11; B1 3 7 8 11; D1 7 11; C5 12; E6 10; F6")
	for _, h := range []int{9, 7, 1, 3, 10} {
		remove(t, s, h)
	}
	extents("A2 4 8 11; B8 11; D11; C5 12; E6; F6")
	update(t, s, 11, x(1)...)
	update(t, s, 2, x(1)...)
	extents("A2 4 8 11; B8 11; D11; C5 12; E6; F6")
	insert(t, s, "D")
	insert(t, s, "F")
	insert(t, s, "E")
	extents("A2 4 8 11 13; B8 11 13; D11 13; C5 12; E6 14 15; F6 14")
	for _, h := range []int{5, 12, 11, 13, 14, 6} {
		remove(t, s, h)
	}
	extents("A2 4 8; B8; D; C; E15; F")
	for _, name := range []string{"", "G", "a", "x", "AB", "\xff"} {
		if l := s.Extent(name); l != nil {
			t.Errorf("Extent(%q): %v", name, l)
		}
	}
}

// P3.4: Equal tells the facts of just that class with just these values.
func TestEqual(t *testing.T) {
	s := made(t, 20)
	for _, l := range [][]api.Given{x(5), nil, x(5), set(given("l", list())), set(given("x", num(5)), given("l", list(num(1), num(2)))), x(5)} {
		insert(t, s, "A", l...)
	}
	insert(t, s, "B", x(5)...)
	insert(t, s, "C")
	insert(t, s, "C")
	insert(t, s, "E", given("x", text("5")))
	insert(t, s, "E", given("x", num(5)))
	insert(t, s, "E", given("x", handle(5)))
	insert(t, s, "F", given("x", num(5)))
	for _, c := range []struct {
		name string
		vals []api.Value
		want string
	}{
		{"A", []api.Value{num(5), none}, "[1 3 6]"}, {"A", []api.Value{none, none}, "[2]"}, {"A", []api.Value{none, list()}, "[4]"},
		{"A", []api.Value{num(5), list(num(1), num(2))}, "[5]"}, {"A", []api.Value{num(5), list(num(2), num(1))}, "[]"}, {"A", []api.Value{num(5), list(list(num(1), num(2)))}, "[]"},
		{"A", []api.Value{num(5)}, "[]"}, {"A", []api.Value{num(5), none, none}, "[]"}, {"A", nil, "[]"}, {"A", []api.Value{none, num(5)}, "[]"},
		{"B", []api.Value{num(5), none, none}, "[7]"}, {"B", []api.Value{num(5), none}, "[]"}, {"D", []api.Value{num(5), none, none, none, none}, "[]"},
		{"C", nil, "[8 9]"}, {"C", []api.Value{}, "[8 9]"}, {"C", []api.Value{none}, "[]"},
		{"E", []api.Value{none, text("5")}, "[10]"}, {"E", []api.Value{none, num(5)}, "[11]"}, {"E", []api.Value{none, handle(5)}, "[12]"}, {"F", []api.Value{none, num(5)}, "[13]"},
		{"E", []api.Value{none, truth(true)}, "[]"}, {"E", []api.Value{none, list(num(5))}, "[]"},
		{"G", nil, "[]"}, {"", nil, "[]"}, {"", []api.Value{num(5), none}, "[]"}, {"c", nil, "[]"}, {"G", []api.Value{none, num(5)}, "[]"},
	} {
		if got := fmt.Sprint(s.Equal(c.name, c.vals)); got != c.want {
			t.Errorf("Equal(%s, %v): %s; not %s", c.name, c.vals, got, c.want)
		}
	}
	for i, v := range barred() {
		if l := s.Equal("E", []api.Value{none, v}); l != nil {
			t.Errorf("a value that may not be, %d: %v", i, l)
		}
	}
}

// P3.4: values whose encodings could run into one another stay apart.
func TestEqualApart(t *testing.T) {
	s, _ := wide(t)
	b := func(l ...string) (out []api.Given) {
		for i, v := range l {
			out = append(out, given(fmt.Sprint("f", i), text(v)))
		}
		return out
	}
	for _, l := range [][]api.Given{b("", "ab"), b("a", "b"), b("ab", ""), b("a\x03\x00\x00\x00\x01b", ""), b("ab")} {
		insert(t, s, "W", l...)
	}
	for h := 1; h <= 5; h++ {
		f, _ := s.Get(h)
		if l := s.Equal("W", f.Vals); len(l) != 1 || l[0] != h {
			t.Errorf("%d: %v", h, l)
		}
		if l := s.Equal("W", f.Vals[:61]); l != nil {
			t.Errorf("%d: a beginning: %v", h, l)
		}
	}
}

// P3.4: a fact's content goes with each change, to a place among those that are there.
func TestEqualMoves(t *testing.T) {
	s := made(t, 9)
	for i := range 6 {
		insert(t, s, "A", x(int64(i%2))...)
	}
	equal := func(want string) {
		t.Helper()
		got := fmt.Sprint(s.Equal("A", []api.Value{num(0), none}), s.Equal("A", []api.Value{num(1), none}), s.Equal("A", []api.Value{num(2), none}))
		if got != want {
			t.Errorf("%s; not %s", got, want)
		}
	}
	equal("[1 3 5] [2 4 6] []")
	update(t, s, 4, x(0)...)
	equal("[1 3 4 5] [2 6] []")
	update(t, s, 1, x(1)...)
	equal("[3 4 5] [1 2 6] []")
	update(t, s, 6, x(2)...)
	equal("[3 4 5] [1 2] [6]")
	remove(t, s, 4)
	update(t, s, 6, x(0)...)
	equal("[3 5 6] [1 2] []")
	s.Update(3, set(given("x", num(2)), given("q", none)))
	equal("[3 5 6] [1 2] []")
	for _, h := range []int{1, 2, 3, 5, 6} {
		remove(t, s, h)
	}
	equal("[] [] []")
}

// P3.4: All tells each fact as Get does, by handles.
func TestAll(t *testing.T) {
	s := made(t, 30)
	for i := range 30 {
		insert(t, s, []string{"D", "A", "C", "E"}[i%4])
	}
	for _, h := range []int{1, 30, 11, 12, 13} {
		remove(t, s, h)
	}
	insert(t, s, "B")
	update(t, s, 2, x(4)...)
	last := 0
	for _, f := range s.All() {
		g, ok := s.Get(f.Handle)
		if f.Handle <= last || !ok || !reflect.DeepEqual(f, g) {
			t.Errorf("%v; Get: %v", f, g)
		}
		last = f.Handle
	}
	if len(s.All()) != 26 || last != 31 {
		t.Error(len(s.All()), last)
	}
}
