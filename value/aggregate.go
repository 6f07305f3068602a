package value

import (
	"slices"

	"proctor/api"
)

func Aggregate(fn string, l []api.Value) (api.Value, api.Errno) {
	if !allFit(l, api.MaxDeep) {
		return api.Value{}, api.ErrArg
	}
	switch fn {
	case "count":
		return number(int64(len(l))), api.OK
	case "sum":
		return sum(l)
	case "min":
		return foremost(l, Order), api.OK
	case "max":
		return foremost(l, func(a, b api.Value) int { return Order(b, a) }), api.OK
	case "list":
		return gather(l)
	}
	return api.Value{}, api.ErrArg
}

func sum(l []api.Value) (api.Value, api.Errno) {
	var total wide
	for _, v := range l {
		if v.Kind != api.VInt {
			return refuse()
		}
		total = total.plus(widen(v.Int))
	}
	return total.narrow()
}

func foremost(l []api.Value, order func(a, b api.Value) int) api.Value {
	if len(l) == 0 {
		return api.Value{}
	}
	return clone(slices.MinFunc(l, order))
}

// gather asks for one list less of room: its answer is a list around them.
func gather(l []api.Value) (api.Value, api.Errno) {
	if len(l) > api.MaxList || !allFit(l, api.MaxDeep-1) {
		return api.Value{}, api.ErrOverflow
	}
	return api.Value{Kind: api.VList, List: sorted(cloneList(l), Order)}, api.OK
}

// sorted sorts l in place: it is for lists that are the program's own.
func sorted[T any](l []T, order func(a, b T) int) []T {
	slices.SortStableFunc(l, order)
	return l
}
