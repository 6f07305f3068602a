package class_test

import (
	"math"
	"strings"
	"testing"

	"proctor/api"
)

// of knows the facts 1 to 6; the ones behind 4 are told with a class that is none, and with a false.
func of(h int) (string, bool) {
	switch h {
	case 1:
		return "A", true
	case 2:
		return "B", true
	case 3:
		return "C", true
	case 4:
		return "D", true
	case 5:
		return "Z", true
	case 6:
		return "", true
	}
	return "A", false
}

// P2.3: each type takes its kind, and the VNull; a type that is none takes nothing else.
func TestFitsKinds(t *testing.T) {
	a := table(t, family())
	all := []api.Value{none, truth(true), truth(false), num(0), num(math.MinInt64), text(""), text("a"), list(), list(num(1), text("")), handle(1), handle(9)}
	for kind, want := range map[int]string{
		api.TAny:      "11111111111",
		api.TBool:     "11100000000",
		api.TInt:      "10011000000",
		api.TText:     "10000110000",
		api.TList:     "10000001100",
		api.TRef:      "10000000010",
		-1:            "10000000000",
		api.TRef + 1:  "10000000000",
		math.MaxInt64: "10000000000",
		math.MinInt64: "10000000000",
		1 << 32:       "10000000000",
	} {
		for i, v := range all {
			if a.Fits(api.Field{Name: "x", Type: kind, Class: "A"}, v, of) != (want[i] == '1') {
				t.Errorf("type %d: %v", kind, v)
			}
		}
	}
}

// P2.3: a TRef takes the facts of its class and of those below, if of tells one.
func TestFitsRefs(t *testing.T) {
	a := table(t, family())
	for name, want := range map[string]string{
		"A": "1101000000", "B": "0101000000", "C": "0010000000", "D": "0001000000", "G": "0000000000",
		"Z": "0000000000", "": "0000000000", "a": "0000000000",
	} {
		for i, v := range []api.Value{handle(1), handle(2), handle(3), handle(4), handle(5), handle(6), handle(7), handle(math.MaxInt64), handle(0), handle(-1)} {
			if a.Fits(api.Field{Name: "x", Type: api.TRef, Class: name}, v, of) != (want[i] == '1') {
				t.Errorf("a ref to %q: %v", name, v)
			}
		}
		if !a.Fits(api.Field{Name: "x", Type: api.TRef, Class: name}, none, of) {
			t.Errorf("a ref to %q: null", name)
		}
	}
}

// P2.3: just the handle is asked for, and just where a TRef meets a VFact that may be.
func TestFitsAsks(t *testing.T) {
	a := table(t, family())
	for kind, want := range map[int]int{api.TAny: 0, api.TBool: 0, api.TInt: 0, api.TText: 0, api.TList: 0, api.TRef: 1, 6: 0} {
		asked := 0
		ask := func(h int) (string, bool) {
			if h != math.MaxInt64 {
				t.Errorf("asked for %d", h)
			}
			asked++
			return "A", true
		}
		for _, v := range []api.Value{none, truth(true), num(1), text(""), list(handle(1)), handle(0), {Kind: api.VFact, Int: 1, Bool: true}} {
			a.Fits(api.Field{Type: kind, Class: "A"}, v, ask)
		}
		a.Fits(api.Field{Type: kind, Class: "A"}, handle(math.MaxInt64), ask)
		if asked != want {
			t.Errorf("type %d: asked %d times", kind, asked)
		}
	}
}

// P2.3: without of no fact fits a TRef; all else is as it is.
func TestFitsWithoutOf(t *testing.T) {
	a := table(t, family())
	ref := api.Field{Type: api.TRef, Class: "A"}
	if a.Fits(ref, handle(1), nil) || a.Fits(ref, num(1), nil) || !a.Fits(ref, none, nil) {
		t.Error("a ref")
	}
	if !a.Fits(api.Field{Type: api.TAny}, handle(9), nil) || !a.Fits(api.Field{Type: api.TInt}, num(1), nil) || a.Fits(api.Field{Type: api.TInt}, handle(1), nil) {
		t.Error("other types")
	}
}

// P2.3: what may not be a value fits nothing, a null with something else in it neither.
func TestFitsBars(t *testing.T) {
	a := table(t, family())
	deep := list()
	for range api.MaxDeep {
		deep = list(deep)
	}
	bad := []api.Value{
		{Int: 1}, {Bool: true}, {Text: "a"}, {List: []api.Value{none}}, {Kind: api.VBool, Int: 1}, {Kind: api.VInt, Text: "a"}, {Kind: api.VText, Bool: true},
		{Kind: api.VList, Int: 1}, {Kind: api.VFact, Int: 1, Text: "a"}, handle(0), handle(-1), {Kind: -1}, {Kind: 6}, list(handle(0)), deep,
		text(strings.Repeat("a", api.MaxString+1)), list(make([]api.Value, api.MaxList+1)...),
	}
	for kind := api.TAny - 1; kind <= api.TRef+1; kind++ {
		for i, v := range bad {
			if a.Fits(api.Field{Type: kind, Class: "A"}, v, of) {
				t.Errorf("type %d: %d", kind, i)
			}
		}
	}
	if !a.Fits(api.Field{Type: api.TText}, text(strings.Repeat("a", api.MaxString)), nil) || !a.Fits(api.Field{Type: api.TList}, deep.List[0], nil) {
		t.Error("as much as may be")
	}
}

// P2.5, R3: what of does is its own: a panic of it tells no class.
func TestFitsEnds(t *testing.T) {
	a := table(t, family())
	ref := api.Field{Type: api.TRef, Class: "A"}
	for _, why := range []any{"a text", error(nil), 1} {
		if a.Fits(ref, handle(1), func(int) (string, bool) { panic(why) }) {
			t.Errorf("panic(%v)", why)
		}
	}
	if a.Fits(ref, handle(1), func(h int) (string, bool) { return []string{"A"}[h], true }) {
		t.Error("beyond a list")
	}
	if !a.Fits(ref, handle(1), of) {
		t.Error("the next one")
	}
	ring := list(none)
	ring.List[0] = ring
	if a.Fits(api.Field{Type: api.TAny}, ring, of) {
		t.Error("a value that holds itself")
	}
}
