package value_test

import (
	"math"
	"strings"

	"proctor/api"
)

var none api.Value

func num(n int64) api.Value         { return api.Value{Kind: api.VInt, Int: n} }
func text(s string) api.Value       { return api.Value{Kind: api.VText, Text: s} }
func truth(b bool) api.Value        { return api.Value{Kind: api.VBool, Bool: b} }
func handle(n int64) api.Value      { return api.Value{Kind: api.VFact, Int: n} }
func list(l ...api.Value) api.Value { return api.Value{Kind: api.VList, List: l} }

// nested makes n lists in one another, the innermost with l.
func nested(n int, l ...api.Value) api.Value {
	v := list(l...)
	for range n - 1 {
		v = list(v)
	}
	return v
}

func nulls(n int) api.Value { return list(make([]api.Value, n)...) }
func xs(n int) api.Value    { return text(strings.Repeat("x", n)) }

// edges has numbers, rising: where sums and products of two are just within int64, and just beyond it.
func edges() []int64 {
	return []int64{
		math.MinInt64, math.MinInt64 + 1, -1 << 62, -1 << 32, -3037000500, -1 << 31, -10, -7, -3, -2, -1, 0,
		1, 2, 3, 7, 10, 1 << 31, 3037000499, 3037000500, 1 << 32, 1 << 62, math.MaxInt64 - 1, math.MaxInt64,
	}
}

func kinds() []api.Value {
	return []api.Value{none, truth(true), num(1), text("a"), list(num(1)), handle(1)}
}

func operations() []int {
	return []int{
		api.ENeg, api.ENot, api.ESize, api.EEq, api.ENe, api.ELt, api.ELe, api.EGt, api.EGe,
		api.EAdd, api.ESub, api.EMul, api.EDiv, api.EMod, api.EHas,
	}
}

// rising has values that may be, unlike and in order.
func rising() []api.Value {
	l := []api.Value{none, truth(false), truth(true)}
	for _, n := range edges() {
		l = append(l, num(n))
	}
	for _, s := range []string{"", "\x00", "\t", "\n", " ", "\"", "0", "10", "2", "A", "\\", "a", "a\x00", "aa", "ab", "b", "ba"} {
		l = append(l, text(s))
	}
	return append(l,
		xs(api.MaxString-1), xs(api.MaxString), text("\u00f1"), text("\xff"),
		list(), list(none), nulls(2), nulls(api.MaxList-1), nulls(api.MaxList), list(none, truth(false)), list(truth(false)), list(truth(false), none),
		list(num(-1)), list(num(0)), list(num(0), num(5)), list(num(1)), list(text("")), list(text("a")), list(text("a"), text("b")), list(text("ab")),
		list(list()), list(list(), list()), list(list(none)), list(list(num(1))), list(list(num(1)), num(0)), list(list(num(2))), nested(api.MaxDeep), list(handle(1)),
		handle(1), handle(2), handle(10), handle(math.MaxInt64))
}

// barred has values that may not be.
func barred() map[string]api.Value {
	full := []api.Value{none}
	return map[string]api.Value{
		"kind -1": {Kind: -1}, "kind 6": {Kind: 6}, "least kind": {Kind: math.MinInt64}, "kind 256": {Kind: 256}, "kind 258": {Kind: 258, Int: 1},
		"null, bool": {Bool: true}, "null, int": {Int: 1}, "null, text": {Text: "a"}, "null, list": {List: full},
		"bool, int": {Kind: api.VBool, Int: 1}, "bool, text": {Kind: api.VBool, Text: "a"}, "bool, list": {Kind: api.VBool, Bool: true, List: full},
		"int, bool": {Kind: api.VInt, Int: 1, Bool: true}, "int, text": {Kind: api.VInt, Text: "1"}, "int, list": {Kind: api.VInt, List: full},
		"text, bool": {Kind: api.VText, Bool: true}, "text, int": {Kind: api.VText, Text: "a", Int: 1}, "text, list": {Kind: api.VText, List: full},
		"list, bool": {Kind: api.VList, Bool: true}, "list, int": {Kind: api.VList, List: full, Int: 1}, "list, text": {Kind: api.VList, Text: "a"},
		"fact, bool": {Kind: api.VFact, Int: 1, Bool: true}, "fact, text": {Kind: api.VFact, Int: 1, Text: "a"}, "fact, list": {Kind: api.VFact, Int: 1, List: full},
		"fact 0": handle(0), "fact -1": handle(-1), "least fact": handle(math.MinInt64),
		"long text": xs(api.MaxString + 1), "long list": nulls(api.MaxList + 1), "deep": nested(api.MaxDeep + 1), "very deep": nested(1 << 16),
		"deep behind": list(num(1), nested(api.MaxDeep)), "within": list(num(1), handle(0)), "long within": list(list(xs(api.MaxString + 1))), "deep within": nested(api.MaxDeep, nested(1)),
	}
}
