// Package value: values: see ../../shared/doc/01-value.md.
package value

import (
	"cmp"

	"proctor/api"
)

func Check(v api.Value) bool { return fits(v, api.MaxDeep) }

// fits tells whether v may be and its lists are at most room deep. The room is asked on the way down, so that a deep value, or one that holds itself, ends early.
func fits(v api.Value, room int) bool {
	rest := v
	switch v.Kind {
	case api.VNull:
	case api.VBool:
		rest.Bool = false
	case api.VInt:
		rest.Int = 0
	case api.VText:
		if len(v.Text) > api.MaxString {
			return false
		}
		rest.Text = ""
	case api.VList:
		if room == 0 || len(v.List) > api.MaxList || !allFit(v.List, room-1) {
			return false
		}
		rest.List = nil
	case api.VFact:
		if v.Int < 1 {
			return false
		}
		rest.Int = 0
	default:
		return false
	}
	return !rest.Bool && rest.Int == 0 && rest.Text == "" && len(rest.List) == 0
}

func allFit(l []api.Value, room int) bool {
	for _, v := range l {
		if !fits(v, room) {
			return false
		}
	}
	return true
}

// Same holds all fields against each other, not the Kind's alone: values that may not be are asked for, too.
func Same(a, b api.Value) bool {
	if a.Kind != b.Kind || a.Bool != b.Bool || a.Int != b.Int || a.Text != b.Text || len(a.List) != len(b.List) {
		return false
	}
	for i, v := range a.List {
		if !Same(v, b.List[i]) {
			return false
		}
	}
	return true
}

func Order(a, b api.Value) int {
	if a.Kind != b.Kind {
		return cmp.Compare(a.Kind, b.Kind)
	}
	switch a.Kind {
	case api.VNull:
		return 0
	case api.VBool:
		return cmp.Compare(bit(a.Bool), bit(b.Bool))
	case api.VInt, api.VFact:
		return cmp.Compare(a.Int, b.Int)
	case api.VList:
		return orderLists(a.List, b.List)
	}
	return cmp.Compare(a.Text, b.Text)
}

func orderLists(a, b []api.Value) int {
	for i := range min(len(a), len(b)) {
		if n := Order(a[i], b[i]); n != 0 {
			return n
		}
	}
	return cmp.Compare(len(a), len(b))
}

func bit(b bool) byte {
	if b {
		return 1
	}
	return 0
}

// clone gives v new memory at every depth: what is told is the caller's own.
func clone(v api.Value) api.Value {
	v.List = cloneList(v.List)
	return v
}

// cloneList tells nil of an empty list: an empty piece of the caller's memory would still lead to what lies behind it.
func cloneList(l []api.Value) []api.Value {
	if len(l) == 0 {
		return nil
	}
	out := make([]api.Value, len(l))
	for i, v := range l {
		out[i] = clone(v)
	}
	return out
}

func number(n int64) api.Value { return api.Value{Kind: api.VInt, Int: n} }

func truth(b bool) api.Value { return api.Value{Kind: api.VBool, Bool: b} }
