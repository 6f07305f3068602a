package value

import (
	"math"
	"slices"

	"proctor/api"
)

// Operations get values that may be: Apply has asked that ahead of them.
type (
	onOne func(a api.Value) (api.Value, api.Errno)
	onTwo func(a, b api.Value) (api.Value, api.Errno)
)

func Apply(op int, l []api.Value) (api.Value, api.Errno) {
	if !allFit(l, api.MaxDeep) {
		return api.Value{}, api.ErrArg
	}
	switch len(l) {
	case 1:
		if do, there := ofOne()[op]; there {
			return do(l[0])
		}
	case 2:
		if do, there := comparing()[op]; there {
			return do(l[0], l[1])
		}
		if do, there := reckoning()[op]; there {
			return do(l[0], l[1])
		}
	}
	return api.Value{}, api.ErrArg
}

func ofOne() map[int]onOne {
	return map[int]onOne{
		api.ENeg:  negate,
		api.ENot:  invert,
		api.ESize: size,
	}
}

// comparing and reckoning are two tables of functions that hold nothing, since a table is made at each call: small ones cost little.
func comparing() map[int]onTwo {
	return map[int]onTwo{
		api.EEq: func(a, b api.Value) (api.Value, api.Errno) { return truth(Same(a, b)), api.OK },
		api.ENe: func(a, b api.Value) (api.Value, api.Errno) { return truth(!Same(a, b)), api.OK },
		api.ELt: func(a, b api.Value) (api.Value, api.Errno) { return compare(a, b, -1, -1) },
		api.ELe: func(a, b api.Value) (api.Value, api.Errno) { return compare(a, b, -1, 0) },
		api.EGt: func(a, b api.Value) (api.Value, api.Errno) { return compare(a, b, 1, 1) },
		api.EGe: func(a, b api.Value) (api.Value, api.Errno) { return compare(a, b, 0, 1) },
	}
}

func reckoning() map[int]onTwo {
	return map[int]onTwo{
		api.EAdd: add,
		api.ESub: func(a, b api.Value) (api.Value, api.Errno) { return reckon(a, b, subtract) },
		api.EMul: func(a, b api.Value) (api.Value, api.Errno) { return reckon(a, b, multiply) },
		api.EDiv: func(a, b api.Value) (api.Value, api.Errno) { return reckon(a, b, divide) },
		api.EMod: func(a, b api.Value) (api.Value, api.Errno) { return reckon(a, b, remainder) },
		api.EHas: has,
	}
}

func refuse() (api.Value, api.Errno) { return api.Value{}, api.ErrType }

func negate(a api.Value) (api.Value, api.Errno) {
	if a.Kind != api.VInt {
		return refuse()
	}
	return widen(0).minus(widen(a.Int)).narrow()
}

func invert(a api.Value) (api.Value, api.Errno) {
	if a.Kind != api.VBool {
		return refuse()
	}
	return truth(!a.Bool), api.OK
}

func size(a api.Value) (api.Value, api.Errno) {
	switch a.Kind {
	case api.VText:
		return number(int64(len(a.Text))), api.OK
	case api.VList:
		return number(int64(len(a.List))), api.OK
	}
	return refuse()
}

// compare tells whether the order lies between low and high. It is for the Kinds alone that rules may order, though Order knows all of them.
func compare(a, b api.Value, low, high int) (api.Value, api.Errno) {
	if a.Kind != b.Kind {
		return refuse()
	}
	switch a.Kind {
	case api.VInt, api.VText, api.VBool:
		order := Order(a, b)
		return truth(low <= order && order <= high), api.OK
	}
	return refuse()
}

func reckon(a, b api.Value, do func(a, b int64) (api.Value, api.Errno)) (api.Value, api.Errno) {
	if a.Kind != api.VInt || b.Kind != api.VInt {
		return refuse()
	}
	return do(a.Int, b.Int)
}

func subtract(a, b int64) (api.Value, api.Errno) { return widen(a).minus(widen(b)).narrow() }

func multiply(a, b int64) (api.Value, api.Errno) { return widen(a).times(widen(b)).narrow() }

func divide(a, b int64) (api.Value, api.Errno) {
	switch {
	case b == 0:
		return api.Value{}, api.ErrZero
	case a == math.MinInt64 && b == -1:
		return api.Value{}, api.ErrOverflow
	}
	return number(a / b), api.OK
}

func remainder(a, b int64) (api.Value, api.Errno) {
	if b == 0 {
		return api.Value{}, api.ErrZero
	}
	return number(a % b), api.OK
}

func add(a, b api.Value) (api.Value, api.Errno) {
	if a.Kind != b.Kind {
		return refuse()
	}
	switch a.Kind {
	case api.VInt:
		return widen(a.Int).plus(widen(b.Int)).narrow()
	case api.VText:
		return joinTexts(a.Text, b.Text)
	case api.VList:
		return joinLists(a.List, b.List)
	}
	return refuse()
}

func joinTexts(a, b string) (api.Value, api.Errno) {
	if len(a)+len(b) > api.MaxString {
		return api.Value{}, api.ErrOverflow
	}
	return api.Value{Kind: api.VText, Text: a + b}, api.OK
}

func joinLists(a, b []api.Value) (api.Value, api.Errno) {
	if len(a)+len(b) > api.MaxList {
		return api.Value{}, api.ErrOverflow
	}
	return api.Value{Kind: api.VList, List: cloneList(slices.Concat(a, b))}, api.OK
}

func has(a, b api.Value) (api.Value, api.Errno) {
	if a.Kind != api.VList {
		return refuse()
	}
	found := slices.ContainsFunc(a.List, func(v api.Value) bool { return Same(v, b) })
	return truth(found), api.OK
}
