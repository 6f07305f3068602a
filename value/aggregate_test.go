package value_test

import (
	"math"
	"math/big"
	"slices"
	"testing"

	"proctor/api"
	"proctor/value"
)

func gather(t *testing.T, fn string, l []api.Value, want api.Value, wantErr api.Errno) {
	t.Helper()
	got, err := value.Aggregate(fn, l)
	if err != wantErr || !value.Same(got, want) {
		t.Errorf("%s of %d: %s, %d; not %s, %d", fn, len(l), value.Text(got), err, value.Text(want), wantErr)
	}
}

// P1.4: count, min, max and list of few, of many, of none.
func TestAggregate(t *testing.T) {
	up := rising()
	down := slices.Clone(up)
	slices.Reverse(down)
	gather(t, "count", nil, num(0), api.OK)
	gather(t, "count", up, num(int64(len(up))), api.OK)
	gather(t, "count", make([]api.Value, api.MaxList+1), num(api.MaxList+1), api.OK)
	gather(t, "min", nil, none, api.OK)
	gather(t, "max", []api.Value{}, none, api.OK)
	for i := range up {
		gather(t, "min", up[i:], up[i], api.OK)
		gather(t, "min", down[i:], none, api.OK)
		gather(t, "max", down[i:], down[i], api.OK)
		gather(t, "max", up[i:], up[len(up)-1], api.OK)
	}
	gather(t, "max", []api.Value{num(3), num(5), num(5), num(4)}, num(5), api.OK)
	gather(t, "min", make([]api.Value, api.MaxList+1), none, api.OK)
	gather(t, "max", []api.Value{nested(api.MaxDeep)}, nested(api.MaxDeep), api.OK)
	gather(t, "list", nil, list(), api.OK)
	gather(t, "list", []api.Value{num(3), text("a"), num(1), num(3), truth(true), none}, list(none, truth(true), num(1), num(3), num(3), text("a")), api.OK)
}

// P1.4: list has bounds in length and depth.
func TestAggregateList(t *testing.T) {
	gather(t, "list", make([]api.Value, api.MaxList), nulls(api.MaxList), api.OK)
	gather(t, "list", make([]api.Value, api.MaxList+1), none, api.ErrOverflow)
	gather(t, "list", []api.Value{none, nested(api.MaxDeep - 1)}, list(none, nested(api.MaxDeep-1)), api.OK)
	gather(t, "list", []api.Value{none, nested(api.MaxDeep)}, none, api.ErrOverflow)
	gather(t, "list", []api.Value{nested(api.MaxDeep), handle(0)}, none, api.ErrArg)
	shuffled := make([]api.Value, api.MaxList)
	for i := range shuffled {
		shuffled[i] = num(int64(i * 2731 % api.MaxList))
	}
	got, err := value.Aggregate("list", shuffled)
	if err != api.OK || len(got.List) != api.MaxList {
		t.Fatal(len(got.List), err)
	}
	for i, v := range got.List {
		if !value.Same(v, num(int64(i))) {
			t.Fatalf("%d: %s", i, value.Text(v))
		}
	}
}

// P1.4, R1: a sum is exact, whatever stands between.
func TestAggregateSum(t *testing.T) {
	most, least := num(math.MaxInt64), num(math.MinInt64)
	gather(t, "sum", nil, num(0), api.OK)
	gather(t, "sum", []api.Value{most, num(1), num(-1)}, most, api.OK)
	gather(t, "sum", []api.Value{least, num(-1), num(1)}, least, api.OK)
	gather(t, "sum", []api.Value{most, num(1)}, none, api.ErrOverflow)
	gather(t, "sum", []api.Value{least, num(-1)}, none, api.ErrOverflow)
	gather(t, "sum", []api.Value{most, most, least, least, num(2), num(7)}, num(7), api.OK)
	gather(t, "sum", []api.Value{least, least, least, least}, none, api.ErrOverflow)
	gather(t, "sum", []api.Value{most, most, num(2), num(5)}, none, api.ErrOverflow)
	for _, bad := range []api.Value{none, truth(true), text("1"), list(num(1)), handle(1)} {
		gather(t, "sum", []api.Value{num(1), bad}, none, api.ErrType)
		gather(t, "sum", []api.Value{most, most, bad}, none, api.ErrType)
	}
	for _, a := range edges() {
		for _, b := range edges() {
			for _, c := range edges() {
				z := new(big.Int).Add(new(big.Int).Add(big.NewInt(a), big.NewInt(b)), big.NewInt(c))
				want, err := none, api.ErrOverflow
				if z.IsInt64() {
					want, err = num(z.Int64()), api.OK
				}
				gather(t, "sum", []api.Value{num(a), num(b), num(c)}, want, err)
			}
		}
	}
}

// P1.4: many of the least, then many of the greatest: more than one word holds on the way.
func TestAggregateLongSum(t *testing.T) {
	var l []api.Value
	for range 3 * api.MaxList {
		l = append(l, num(math.MinInt64))
	}
	gather(t, "sum", l, none, api.ErrOverflow)
	for range 3 * api.MaxList {
		l = append(l, num(math.MaxInt64))
	}
	gather(t, "sum", l, num(-3*api.MaxList), api.OK)
}

// P1.4: ErrArg of a name that is none and of values that may not be; ahead of all else.
func TestAggregateArguments(t *testing.T) {
	for _, fn := range []string{"", "avg", "Count", "sum ", "listt", "lis"} {
		gather(t, fn, nil, none, api.ErrArg)
		gather(t, fn, []api.Value{num(1)}, none, api.ErrArg)
	}
	for _, fn := range []string{"count", "sum", "min", "max", "list"} {
		for _, bad := range barred() {
			gather(t, fn, []api.Value{none, bad}, none, api.ErrArg)
		}
	}
}
