package strat_test

import (
	"fmt"
	"strings"
	"testing"

	"proctor/api"
)

// ring is a rule that has a Not edge from a class to itself.
const ring = `rule "ring" when not (A()) then logical A {}; end `

// P8.1, P8.2: what check bars is barred with its error, be there a ring or not.
func TestBarred(t *testing.T) {
	for _, s := range []string{
		`class E extends F {}`, `class A {}`, `class F extends F {}`, `class F { x : int x : int }`, `class F extends A { x : int }`, `class F { x : ref G }`, many(api.MaxClasses - 4),
	} {
		barred(t, s, read(t, classes+s), api.ErrClass)
		barred(t, s, read(t, classes+s+ring), api.ErrClass)
		barred(t, s, read(t, classes+s+` rule "r" when F() eval($x) then end`), api.ErrClass)
	}
	for _, s := range []string{
		`rule "r" when F() then logical A {}; end`, `rule "r" when A() then logical F {}; end`, `rule "r" when A() then logical A { y = 1 }; end`, `rule "r" when A() then logical A { x = 1, x = 1 }; end`, `rule "r" when $l from [A] A() then logical B {}; end`, `rule "r" when eval($x) then end`, `rule "r" when not (A($x : x)) then logical A { x = $x }; end`,
		`rule "r" when ?q() then logical A {}; end`, `query q() end rule "r" when ?q(1) then logical A {}; end`, `query q() ?p() end`, `query q() not (?q()) end`, `query q() A() exists (?p()) end query p() ?q() end`, `query q() forall (A() ; B()) end`, `query q() acc($n : count(1) over A()) end`, `query q($x) A() end`, `query q() end query q() end`,
		`rule "r" when then end rule "r" when then end`, `rule "r" when ` + strings.Repeat("A() ", api.MaxConds+1) + `then logical B {}; end`, `rule "r" when ` + strings.Repeat("(A() or B()) ", 10) + `then logical B {}; end`, rules(repeated("", "", api.MaxDecls+1)...), rules(repeated("(A() or B() or D())", "E", api.MaxCores/3+1)...),
	} {
		barred(t, s, read(t, classes+s), api.ErrScope)
		barred(t, s, read(t, classes+ring+s), api.ErrScope)
	}
	fine(t, rules(repeated("", "", api.MaxDecls)...), "", "A B C D E")
	fine(t, rules(repeated("(A() or B() or D())", "E", api.MaxCores/3)...), "A>E B>E D>E", "A B C D E")
	fine(t, rules(strings.Repeat("A() ", api.MaxConds), "E"), "A>E", "A B C D E")
}

func many(n int) string {
	s := ""
	for i := range n {
		s += "class " + name(i) + " {} "
	}
	return s
}

// repeated tells n pairs for rules.
func repeated(conds, to string, n int) []string {
	var l []string
	for range n {
		l = append(l, conds, to)
	}
	return l
}

// P8.1, P8.2: of bases made by hand that may not be written, too; nothing else is told of them.
func TestNotWritten(t *testing.T) {
	one := api.Expr{Op: api.ELit, V: api.Value{Kind: api.VInt, Int: 1}}
	a := api.Cond{Kind: api.CFact, Class: "A"}
	when := func(l ...api.Cond) api.Base {
		return api.Base{Rules: []api.Rule{{Name: "r", When: l, Then: []api.Action{{Kind: api.ALogical, Class: "B"}}}}}
	}
	then := func(l ...api.Action) api.Base {
		return api.Base{Rules: []api.Rule{{Name: "r", When: []api.Cond{a}, Then: l}}}
	}
	asks := func(l ...api.Cond) api.Base { return api.Base{Queries: []api.Query{{Name: "q", When: l}}} }
	own := make([]api.Cond, 1)
	own[0] = api.Cond{Kind: api.CNot, Conds: own}
	either := make([]api.Cond, 1)
	either[0] = api.Cond{Kind: api.COr, Alts: [][]api.Cond{either, either}}
	calls := make([]api.Cond, 1)
	calls[0] = api.Cond{Kind: api.CForall, Conds: []api.Cond{a}, Then: calls}
	deep, twice := a, a
	for range 31 {
		deep = api.Cond{Kind: api.CExists, Conds: []api.Cond{deep}}
	}
	for range 16 {
		twice = api.Cond{Kind: api.CNot, Conds: []api.Cond{twice, twice}}
	}
	within := api.Cond{Kind: api.CFact, Class: "A", Conds: []api.Cond{a}}
	for i, b := range []api.Base{
		when(api.Cond{}), when(api.Cond{Kind: -1}), when(api.Cond{Kind: api.CQuery + 1}), when(api.Cond{Kind: api.CFact}), when(within), when(api.Cond{Kind: api.CNot}), when(api.Cond{Kind: api.CExists}), when(api.Cond{Kind: api.CForall, Conds: []api.Cond{a}}), when(api.Cond{Kind: api.CForall, Then: []api.Cond{a}}), when(api.Cond{Kind: api.CNot, Conds: []api.Cond{a}, Then: []api.Cond{a}}),
		when(api.Cond{Kind: api.COr}), when(api.Cond{Kind: api.COr, Alts: [][]api.Cond{{a}}}), when(api.Cond{Kind: api.COr, Alts: [][]api.Cond{{a}, nil}}), when(api.Cond{Kind: api.CAcc, Var: "n", Fn: "count", E: one}), when(api.Cond{Kind: api.CAcc, Var: "n", Conds: []api.Cond{a}, E: one}), when(api.Cond{Kind: api.CQuery}), when(api.Cond{Kind: api.CQuery, Name: "q", Class: "A"}), when(api.Cond{Kind: api.CEval}),
		when(own...), when(either...), when(calls...), when(deep), when(twice), asks(own...), asks(either...), asks(api.Cond{}), asks(deep), when(make([]api.Cond, 1<<18)...),
		then(api.Action{}), then(api.Action{Kind: api.ALogical}), then(api.Action{Kind: 99, Class: "A"}), then(api.Action{Kind: api.ALogical, Class: "A", E: one}), then(api.Action{Kind: api.ALogical, Class: "not"}), then(api.Action{Kind: api.AHalt, Class: "A"}),
		{Rules: []api.Rule{{Name: "\x01"}}}, {Queries: []api.Query{{}}}, {Queries: []api.Query{{Name: "q", Params: []string{"not x"}}}}, {Rules: make([]api.Rule, api.MaxLex/5+1)}, {Classes: make([]api.Class, 1)},
	} {
		barred(t, fmt.Sprint("base ", i), b, api.ErrArg)
		b.Classes = append([]api.Class{{Name: "A"}, {Name: "B"}}, b.Classes...)
		barred(t, fmt.Sprint("base with classes ", i), b, api.ErrArg)
		b.Rules = append([]api.Rule{{Name: "ring", When: []api.Cond{{Kind: api.CNot, Conds: []api.Cond{a}}}, Then: []api.Action{{Kind: api.ALogical, Class: "A"}}}}, b.Rules...)
		barred(t, fmt.Sprint("base with a ring ", i), b, api.ErrArg)
		b.Classes = append(b.Classes, api.Class{Name: "A"})
		barred(t, fmt.Sprint("base with like classes ", i), b, api.ErrArg)
	}
}

// P8.1, P8.2: a base that is longer than a file may be, is one.
func TestLongerThanAFile(t *testing.T) {
	long := strings.Repeat("x", api.MaxText)
	b := read(t, classes+rules("A() not (B())", "D"))
	b.Rules[0].Name = long
	tells(t, "a long name", b, "A>D B!D", "A B C E | D", api.OK)
	b.Rules = append(b.Rules, b.Rules[0])
	barred(t, "two long names", b, api.ErrScope)
}

// P8.1, P8.2: a base made by hand as a file would make it tells the same.
func TestByHand(t *testing.T) {
	a, b := api.Cond{Kind: api.CFact, Class: "A"}, api.Cond{Kind: api.CFact, Class: "B"}
	when := []api.Cond{a, {Kind: api.CForall, Conds: []api.Cond{a}, Then: []api.Cond{{Kind: api.CExists, Conds: []api.Cond{b}}}}, {Kind: api.COr, Alts: [][]api.Cond{{b}, {{Kind: api.CQuery, Name: "q"}}}}}
	tells(t, "by hand", api.Base{
		Classes: []api.Class{{Name: "B"}, {Name: "A"}, {Name: "D", Super: "A"}},
		Rules:   []api.Rule{{When: when, Then: []api.Action{{Kind: api.ALogical, Class: "D"}}}},
		Queries: []api.Query{{Name: "q", When: []api.Cond{b, b}}},
	}, "A>D A!D B>D B!D", "", api.ErrStrata)
	tells(t, "by hand", api.Base{
		Classes: []api.Class{{Name: "B"}, {Name: "A"}, {Name: "D"}},
		Rules:   []api.Rule{{When: when, Then: []api.Action{{Kind: api.ALogical, Class: "D"}}}},
		Queries: []api.Query{{Name: "q", When: []api.Cond{b, b}}},
	}, "A>D A!D B>D B!D", "B A | D", api.OK)
}
