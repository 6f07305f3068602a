package value_test

import (
	"math"
	"math/big"
	"testing"

	"proctor/api"
	"proctor/value"
)

// expect asks Apply, and that beside an error there is nothing else.
func expect(t *testing.T, op int, l []api.Value, want api.Value, wantErr api.Errno) {
	t.Helper()
	got, err := value.Apply(op, l)
	if err != wantErr || !value.Same(got, want) {
		t.Errorf("op %d of %s: %s, %d; not %s, %d", op, value.Text(list(l...)), value.Text(got), err, value.Text(want), wantErr)
	}
}

// exact works out a number without bounds: its value, or the error.
func exact(op int, a, b int64) (api.Value, api.Errno) {
	x, y, z := big.NewInt(a), big.NewInt(b), new(big.Int)
	switch op {
	case api.EAdd:
		z.Add(x, y)
	case api.ESub:
		z.Sub(x, y)
	case api.EMul:
		z.Mul(x, y)
	default:
		if b == 0 {
			return none, api.ErrZero
		}
		if op == api.EDiv {
			z.Quo(x, y)
		} else {
			z.Rem(x, y)
		}
	}
	if !z.IsInt64() {
		return none, api.ErrOverflow
	}
	return num(z.Int64()), api.OK
}

// P1.3, R1: numbers are exact, or ErrOverflow, ErrZero.
func TestApplyNumbers(t *testing.T) {
	for _, op := range []int{api.EAdd, api.ESub, api.EMul, api.EDiv, api.EMod} {
		for _, a := range edges() {
			for _, b := range edges() {
				want, err := exact(op, a, b)
				expect(t, op, []api.Value{num(a), num(b)}, want, err)
			}
		}
	}
	for _, a := range edges() {
		if a == math.MinInt64 {
			expect(t, api.ENeg, []api.Value{num(a)}, none, api.ErrOverflow)
		} else {
			expect(t, api.ENeg, []api.Value{num(a)}, num(-a), api.OK)
		}
	}
	expect(t, api.EDiv, []api.Value{num(-7), num(2)}, num(-3), api.OK)
	expect(t, api.EMod, []api.Value{num(-7), num(2)}, num(-1), api.OK)
	expect(t, api.EMod, []api.Value{num(7), num(-2)}, num(1), api.OK)
	expect(t, api.EMod, []api.Value{num(math.MinInt64), num(-1)}, num(0), api.OK)
}

// P1.3: comparisons go by Order, equality by Same.
func TestApplyComparisons(t *testing.T) {
	l := rising()
	for i, a := range l {
		for k, b := range l {
			two := []api.Value{a, b}
			expect(t, api.EEq, two, truth(i == k), api.OK)
			expect(t, api.ENe, two, truth(i != k), api.OK)
			if a.Kind == b.Kind && (a.Kind == api.VInt || a.Kind == api.VText || a.Kind == api.VBool) {
				expect(t, api.ELt, two, truth(i < k), api.OK)
				expect(t, api.ELe, two, truth(i <= k), api.OK)
				expect(t, api.EGt, two, truth(i > k), api.OK)
				expect(t, api.EGe, two, truth(i >= k), api.OK)
			}
		}
	}
}

// P1.3: the rest of the table.
func TestApplyOthers(t *testing.T) {
	expect(t, api.ENot, []api.Value{truth(true)}, truth(false), api.OK)
	expect(t, api.ENot, []api.Value{truth(false)}, truth(true), api.OK)
	expect(t, api.EAdd, []api.Value{text("a"), text("bc")}, text("abc"), api.OK)
	expect(t, api.EAdd, []api.Value{text(""), text("")}, text(""), api.OK)
	expect(t, api.EAdd, []api.Value{xs(api.MaxString - 1), xs(1)}, xs(api.MaxString), api.OK)
	expect(t, api.EAdd, []api.Value{xs(api.MaxString), text("")}, xs(api.MaxString), api.OK)
	expect(t, api.EAdd, []api.Value{xs(api.MaxString), xs(1)}, none, api.ErrOverflow)
	expect(t, api.EAdd, []api.Value{xs(1), xs(api.MaxString)}, none, api.ErrOverflow)
	expect(t, api.EAdd, []api.Value{list(num(1), none), list(list(num(2)))}, list(num(1), none, list(num(2))), api.OK)
	expect(t, api.EAdd, []api.Value{list(), list()}, list(), api.OK)
	expect(t, api.EAdd, []api.Value{nulls(api.MaxList - 1), nulls(1)}, nulls(api.MaxList), api.OK)
	expect(t, api.EAdd, []api.Value{nulls(api.MaxList), list()}, nulls(api.MaxList), api.OK)
	expect(t, api.EAdd, []api.Value{nulls(api.MaxList), nulls(1)}, none, api.ErrOverflow)
	expect(t, api.EAdd, []api.Value{nulls(1), nulls(api.MaxList)}, none, api.ErrOverflow)
	expect(t, api.EAdd, []api.Value{nested(api.MaxDeep), nested(api.MaxDeep)}, list(nested(api.MaxDeep-1), nested(api.MaxDeep-1)), api.OK)
	expect(t, api.ESize, []api.Value{text("a\u00f1")}, num(3), api.OK)
	expect(t, api.ESize, []api.Value{text("")}, num(0), api.OK)
	expect(t, api.ESize, []api.Value{xs(api.MaxString)}, num(api.MaxString), api.OK)
	expect(t, api.ESize, []api.Value{list()}, num(0), api.OK)
	expect(t, api.ESize, []api.Value{list(list(none, none), none)}, num(2), api.OK)
	expect(t, api.ESize, []api.Value{nulls(api.MaxList)}, num(api.MaxList), api.OK)
	expect(t, api.EHas, []api.Value{list(num(1), list(none)), list(none)}, truth(true), api.OK)
	expect(t, api.EHas, []api.Value{list(num(1), list(none)), none}, truth(false), api.OK)
	expect(t, api.EHas, []api.Value{list(num(1)), text("1")}, truth(false), api.OK)
	expect(t, api.EHas, []api.Value{list(num(1)), handle(1)}, truth(false), api.OK)
	expect(t, api.EHas, []api.Value{list(), none}, truth(false), api.OK)
}

// takes says by hand what the table says: whether op is for values of these Kinds.
func takes(op int, a, b int) bool {
	switch op {
	case api.ENeg:
		return a == api.VInt
	case api.ENot:
		return a == api.VBool
	case api.ESize:
		return a == api.VText || a == api.VList
	case api.EEq, api.ENe:
		return true
	case api.ELt, api.ELe, api.EGt, api.EGe:
		return a == b && (a == api.VInt || a == api.VText || a == api.VBool)
	case api.EAdd:
		return a == b && (a == api.VInt || a == api.VText || a == api.VList)
	case api.EHas:
		return a == api.VList
	}
	return a == api.VInt && b == api.VInt
}

func single(op int) bool { return op == api.ENeg || op == api.ENot || op == api.ESize }

// P1.3: ErrType of all Kinds that an operation isn't for.
func TestApplyTypes(t *testing.T) {
	for _, op := range operations() {
		for _, a := range kinds() {
			for _, b := range kinds() {
				l := []api.Value{a, b}
				if single(op) {
					l = l[:1]
				}
				got, err := value.Apply(op, l)
				if takes(op, a.Kind, b.Kind) && err != api.OK {
					t.Errorf("op %d of kinds %d, %d: %d", op, a.Kind, b.Kind, err)
				}
				if !takes(op, a.Kind, b.Kind) && (err != api.ErrType || !value.Same(got, none)) {
					t.Errorf("op %d of kinds %d, %d: %s, %d", op, a.Kind, b.Kind, value.Text(got), err)
				}
			}
		}
	}
}

// P1.3: ErrArg of an op that is none here, of too few or too many values, of values that may not be; ahead of ErrType.
func TestApplyArguments(t *testing.T) {
	for _, op := range []int{-1, api.ENone, api.ELit, api.EVar, api.EField, api.EGet, api.EList, api.EAnd, api.EOr, api.EHas + 1, math.MinInt64, math.MaxInt64} {
		for n := range 4 {
			expect(t, op, []api.Value{truth(true), truth(true), none}[:n], none, api.ErrArg)
		}
	}
	for _, op := range operations() {
		for n := range 5 {
			if n != 2 && !single(op) || n != 1 && single(op) {
				expect(t, op, []api.Value{num(1), num(1), num(1), num(1)}[:n], none, api.ErrArg)
			}
		}
		for _, bad := range barred() {
			if single(op) {
				expect(t, op, []api.Value{bad}, none, api.ErrArg)
				continue
			}
			expect(t, op, []api.Value{none, bad}, none, api.ErrArg)
			expect(t, op, []api.Value{bad, num(0)}, none, api.ErrArg)
		}
	}
}
