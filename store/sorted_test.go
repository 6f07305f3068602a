package store

import (
	"slices"
	"testing"
)

// A list stays sorted whatever comes and goes, in whichever order, and has each once.
func TestSorted(t *testing.T) {
	var l sorted[string]
	for _, c := range []struct {
		with bool
		item string
		want []string
	}{
		{true, "m", []string{"m"}}, {true, "c", []string{"c", "m"}}, {true, "x", []string{"c", "m", "x"}}, {true, "m", []string{"c", "m", "x"}},
		{true, "", []string{"", "c", "m", "x"}}, {false, "d", []string{"", "c", "m", "x"}}, {false, "y", []string{"", "c", "m", "x"}}, {false, "m", []string{"", "c", "x"}},
		{false, "x", []string{"", "c"}}, {false, "", []string{"c"}}, {true, "b", []string{"b", "c"}}, {false, "c", []string{"b"}}, {false, "b", nil}, {false, "b", nil},
	} {
		if c.with {
			l = l.with(c.item)
		} else {
			l = l.without(c.item)
		}
		if !slices.Equal(l, c.want) {
			t.Fatalf("%q, %v: %v", c.item, c.with, l)
		}
	}
}

func TestMerged(t *testing.T) {
	for _, c := range []struct{ a, b, want sorted[int] }{
		{nil, nil, nil}, {sorted[int]{1}, nil, sorted[int]{1}}, {nil, sorted[int]{1, 2}, sorted[int]{1, 2}},
		{sorted[int]{1, 2}, sorted[int]{3, 4}, sorted[int]{1, 2, 3, 4}}, {sorted[int]{3, 4}, sorted[int]{1, 2}, sorted[int]{1, 2, 3, 4}},
		{sorted[int]{1, 4, 5, 9}, sorted[int]{2, 3, 7}, sorted[int]{1, 2, 3, 4, 5, 7, 9}}, {sorted[int]{5}, sorted[int]{-3, 4, 6}, sorted[int]{-3, 4, 5, 6}},
	} {
		a, b := slices.Clone(c.a), slices.Clone(c.b)
		got := merged(c.a, c.b)
		if !slices.Equal(got, c.want) || (got == nil) != (c.want == nil) {
			t.Errorf("%v, %v: %v", a, b, got)
		}
		clear(got[:cap(got)])
		if !slices.Equal(a, c.a) || !slices.Equal(b, c.b) {
			t.Errorf("%v, %v share memory with what is told", a, b)
		}
	}
}

// What is gone takes no room: no shelf stays empty.
func TestShelves(t *testing.T) {
	shelves := map[content]sorted[int]{}
	one, other := content{"A", "1"}, content{"A", "2"}
	put(shelves, one, 2)
	put(shelves, one, 1)
	put(shelves, other, 3)
	put(shelves, content{"B", "1"}, 4)
	if !slices.Equal(shelves[one], sorted[int]{1, 2}) || !slices.Equal(shelves[other], sorted[int]{3}) || len(shelves) != 3 {
		t.Errorf("%v", shelves)
	}
	drop(shelves, one, 2)
	drop(shelves, other, 3)
	if !slices.Equal(shelves[one], sorted[int]{1}) || len(shelves) != 2 {
		t.Errorf("%v", shelves)
	}
	drop(shelves, one, 1)
	if len(shelves) != 1 {
		t.Errorf("%v", shelves)
	}
}
