package value_test

import (
	"math"
	"testing"

	"proctor/api"
	"proctor/value"
)

// P1.1: Check takes what may be, up to its bounds, and bars all else.
func TestCheck(t *testing.T) {
	for i, v := range rising() {
		if !value.Check(v) {
			t.Errorf("%d may be", i)
		}
	}
	wide := list()
	for range api.MaxList {
		wide.List = append(wide.List, nested(api.MaxDeep-1))
	}
	if !value.Check(wide) {
		t.Error("depth is counted along one way, not over all of them")
	}
	for name, v := range barred() {
		if value.Check(v) {
			t.Errorf("%s may not be", name)
		}
	}
}

// P1.1, R2: nil and empty lists are one, whatever the Kind.
func TestCheckEmptyList(t *testing.T) {
	for i, v := range kinds() {
		if v.Kind != api.VList {
			v.List = []api.Value{}
		}
		if !value.Check(v) {
			t.Errorf("%d may be", i)
		}
	}
	empty := api.Value{Kind: api.VList, List: []api.Value{}}
	if !value.Check(empty) || !value.Same(empty, list()) || value.Order(empty, list()) != 0 {
		t.Error("an empty list is not a nil one")
	}
}

// P1.1: Same holds all fields against each other, of what may not be, too.
func TestSame(t *testing.T) {
	l := rising()
	for i, v := range l {
		for k, w := range l {
			if value.Same(v, w) != (i == k) {
				t.Errorf("%d, %d", i, k)
			}
		}
	}
	for name, v := range barred() {
		if !value.Same(v, v) {
			t.Errorf("%s is the same as itself", name)
		}
	}
	whole := api.Value{Kind: 9, Bool: true, Int: 1, Text: "a", List: []api.Value{num(1)}}
	for i, w := range []api.Value{
		{Kind: 8, Bool: true, Int: 1, Text: "a", List: []api.Value{num(1)}},
		{Kind: 9, Int: 1, Text: "a", List: []api.Value{num(1)}},
		{Kind: 9, Bool: true, Int: 2, Text: "a", List: []api.Value{num(1)}},
		{Kind: 9, Bool: true, Int: 1, Text: "b", List: []api.Value{num(1)}},
		{Kind: 9, Bool: true, Int: 1, Text: "a"},
		{Kind: 9, Bool: true, Int: 1, Text: "a", List: []api.Value{num(2)}},
		{Kind: 9, Bool: true, Int: 1, Text: "a", List: []api.Value{num(1), num(1)}},
	} {
		if value.Same(whole, w) || value.Same(w, whole) || value.Same(list(whole), list(w)) {
			t.Errorf("%d is another one", i)
		}
	}
}

// P1.2, P1.7: Order tells the places of values that are named in order, so it is an order, 0 just of the same.
func TestOrder(t *testing.T) {
	l := rising()
	for i, v := range l {
		for k, w := range l {
			want := 0
			if i < k {
				want = -1
			} else if i > k {
				want = 1
			}
			if got := value.Order(v, w); got != want {
				t.Errorf("%d, %d: %d, not %d", i, k, got, want)
			}
		}
	}
}

// P1.2: values that may not be have an order, too: by Kind, then by what the Kind is ordered by, and by nothing else.
func TestOrderOfBarred(t *testing.T) {
	for i, c := range []struct {
		a, b api.Value
		want int
	}{
		{api.Value{Kind: -1}, none, -1},
		{api.Value{Kind: math.MinInt64}, api.Value{Kind: math.MaxInt64}, -1},
		{api.Value{Kind: 6}, handle(math.MaxInt64), 1},
		{api.Value{Text: "b", Int: 1, Bool: true}, api.Value{Text: "a"}, 0},
		{api.Value{Kind: 6, Text: "a", Int: 2}, api.Value{Kind: 6, Text: "b", Int: 1}, -1},
		{api.Value{Kind: 6, Text: "a", Int: 2, Bool: true}, api.Value{Kind: 6, Text: "a"}, 0},
		{api.Value{Kind: -1, Text: "ab"}, api.Value{Kind: -1, Text: "a"}, 1},
		{api.Value{Kind: api.VInt, Int: 1, Text: "b"}, api.Value{Kind: api.VInt, Int: 1, Text: "a"}, 0},
		{api.Value{Kind: api.VBool, Int: 1}, truth(false), 0},
		{api.Value{Kind: api.VText, Text: "a", Int: 5}, text("a"), 0},
		{handle(math.MinInt64), handle(0), -1},
		{list(api.Value{Kind: 7}), list(handle(1)), 1},
		{api.Value{Kind: api.VList, Text: "b", Int: 1}, list(), 0},
		{nested(1 << 16), nested(1<<16, none), -1},
		{nulls(api.MaxList + 1), nulls(api.MaxList + 2), -1},
	} {
		if got, back := value.Order(c.a, c.b), value.Order(c.b, c.a); got != c.want || back != -c.want {
			t.Errorf("%d: %d, %d, not %d", i, got, back, c.want)
		}
	}
}
