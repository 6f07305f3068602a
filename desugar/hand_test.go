package desugar_test

import (
	"testing"

	"proctor/api"
	"proctor/desugar"
)

// P9.1: an or that has no alternative leaves no choice, and one of one is no choice.
func TestOrsByHand(t *testing.T) {
	p, q, r := fact("P"), fact("Q"), fact("R")
	for _, c := range []struct {
		l    []api.Cond
		want string
		n    int
	}{
		{nil, "", 1}, {list(), "", 1}, {list(or()), "", 0}, {list(or(nil)), "", 1}, {list(or(nil, nil)), " | ", 2}, {list(or(list(p))), "P", 1}, {list(p, or(list(q)), r), "P Q R", 1}, {list(p, or(), q), "", 0}, {list(or(list(or(list(or(list(p, q)))), r))), "P Q R", 1},
		{list(or(list(p), nil), q), "P Q | Q", 2}, {list(or(list(or()), list(p))), "P", 1}, {list(or(list(p, or(), q), list(p), list(or(list(or()))))), "P", 1}, {list(or(list(or()), list(or())), p), "", 0}, {list(or(list(p), list(q)), or()), "", 0}, {list(or(list(p), list(q)), or(list(r), list(or()))), "P R | Q R", 2},
		{list(within(api.CNot, or())), "", 1}, {list(p, within(api.CNot, or(), p), q), "P Q", 1}, {list(within(api.CNot)), "!()", 1}, {list(within(api.CNot, or(list(p), list(or())))), "!(P)", 1}, {list(within(api.CNot, or(nil, nil))), "!() !()", 1},
		{list(within(api.CExists)), "E()", 1}, {list(within(api.CExists, or())), "!()", 1}, {list(p, within(api.CExists, or(), q)), "P !()", 1}, {list(within(api.CExists, or(list(p)))), "E(P)", 1}, {list(within(api.CExists, or(nil, nil))), "!(!() !())", 1}, {list(within(api.CExists, or(list(p), list(or())))), "E(P)", 1},
		{list(forall(nil, nil)), "!(!())", 1}, {list(forall(list(or()), list(p))), "", 1}, {list(forall(list(p), list(or()))), "!(P)", 1}, {list(forall(list(p), list(or(list(q))))), "!(P !(Q))", 1}, {list(forall(list(or(list(p), list(q))), list(or()))), "!(P) !(Q)", 1},
		{list(within(api.CAcc)), "S()", 1}, {list(within(api.CAcc, or(list(p)))), "S(P)", 1}, {list(within(api.CAcc, or(list(p), list(or())), q)), "S(P Q)", 1},
	} {
		gives(t, c.l, c.want)
		takes(t, short(c.l), c.l, c.n)
	}
	for _, l := range [][]api.Cond{
		list(within(api.CAcc, or(nil, nil))), list(or(), within(api.CAcc, or(list(p), list(q)))), list(within(api.CAcc, within(api.CAcc, or(list(p), list(or(list(q), list(r))))))), list(within(api.CNot, or(), within(api.CAcc, or(list(p), list(q))))),
	} {
		refuses(t, short(l), l)
	}
}

// P9.1, P9.4: an acc over what has no alternative is of the core, and still goes over nothing.
func TestAccOfNone(t *testing.T) {
	gives(t, list(within(api.CAcc, or())), "S(!())")
	gives(t, list(within(api.CAcc, fact("P"), or(list(or())), fact("Q")), fact("R")), "S(!()) R")
}

// P9.1: what stands where its kind has nothing stays there; it counts, and is neither core nor choice.
func TestStrays(t *testing.T) {
	for _, c := range []api.Cond{
		{}, {Kind: 99, Var: "v", Fn: "f", Name: "n"}, {Kind: -1, Conds: list(fact("P"))}, {Kind: api.CFact, Conds: list(fact("P"), fact("Q")), Then: list(fact("R")), Alts: [][]api.Cond{list(fact("P")), nil}}, {Kind: api.CNot, Var: "v", Class: "c", Binds: make([]api.Bind, 2), Conds: list(fact("P")), Then: list(fact("Q")), Alts: [][]api.Cond{list(fact("R"))}}, {Kind: api.CExists, Name: "n", Args: make([]api.Arg, 2), Then: list(within(api.CNot, fact("P")))}, {Kind: api.CAcc, Tests: make([]api.Expr, 3), Conds: list(fact("P")), Alts: [][]api.Cond{nil, nil}}, {Kind: api.CEval, E: api.Expr{Op: 77, Text: "x", Args: make([]api.Expr, 2), V: api.Value{Kind: 9, Int: 1, List: make([]api.Value, 2)}}},
	} {
		l := list(fact("A"), c, fact("B"))
		alts, err := desugar.Conds(l)
		if err != api.OK || len(alts) != 1 || !same(alts[0], l) || !desugar.Core(l) {
			t.Errorf("%v: %v, %d", l, alts, err)
		}
	}
	choice := or(list(fact("P")), list(fact("Q")))
	for _, kind := range []int{api.CNone, api.CFact, api.CFrom, api.CEval, api.CQuery, 10} {
		l := list(api.Cond{Kind: kind, Conds: list(choice), Then: list(forall(nil, nil)), Alts: [][]api.Cond{list(choice)}})
		if alts, err := desugar.Conds(l); err != api.OK || len(alts) != 1 || !same(alts[0], l) {
			t.Errorf("%v: %v, %d", l, alts, err)
		}
	}
	for name, wrap := range wraps() {
		inner := make([]api.Cond, 62)
		l := list(wrap(inner))
		if kind := l[0].Kind; kind == api.COr || kind == api.CForall {
			continue
		}
		takes(t, name, append(l, fact("P")), 1)
		refuses(t, name, append(l, fact("P"), fact("Q")))
		refuses(t, name, list(wrap(make([]api.Cond, 64))))
		refuses(t, name, list(wrap(make([]api.Cond, 10000))))
	}
}

// P9.1: lists of as many conditions as can be.
func TestWide(t *testing.T) {
	const n = 50000
	fill := func(c api.Cond) []api.Cond {
		l := make([]api.Cond, n)
		for i := range l {
			l[i] = c
		}
		return l
	}
	alts := func(l []api.Cond, n int) [][]api.Cond {
		all := make([][]api.Cond, n)
		for i := range all {
			all[i] = l
		}
		return all
	}
	takes(t, "empty choices", fill(or(nil)), 1)
	takes(t, "choices of one", append(fill(or(list(or(nil)))), fact("P")), 1)
	takes(t, "nothing", fill(within(api.CNot, or())), 1)
	takes(t, "foralls of nothing", fill(forall(list(or()), list(fact("P")))), 1)
	takes(t, "no alternative", append(fill(or(nil, nil)), or()), 0)
	takes(t, "no alternative, ahead", append(list(or()), fill(fact("P"))...), 0)
	takes(t, "no alternative, far in", list(or(append(fill(or(nil, nil)), or(list(or()))), nil)), 1)
	takes(t, "alternatives that are none", list(or(append(alts(list(or()), n), list(fact("P")))...)), 1)
	takes(t, "not with empty choices", list(within(api.CNot, fill(or(nil))...)), 1)
	for name, l := range map[string][]api.Cond{
		"conditions": fill(fact("P")), "choices": fill(or(nil, nil)), "choices of conditions": fill(or(list(fact("P")), list(fact("Q")))), "a choice among many": list(or(alts(nil, n)...)), "conditions of one choice": fill(or(list(fact("P")))), "nots": fill(within(api.CNot)), "many within": list(or(fill(fact("P")), nil)),
	} {
		refuses(t, name, l)
		refuses(t, name, list(within(api.CNot, l...)))
		refuses(t, name, list(within(api.CExists, l...)))
		refuses(t, name, list(within(api.CAcc, l...)))
		refuses(t, name, list(forall(l, nil)))
		refuses(t, name, list(forall(nil, l)))
		refuses(t, name, list(or(nil, l)))
	}
}
