package check_test

import (
	"fmt"
	"strings"
	"testing"

	"proctor/api"
	"proctor/check"
)

// P7.1: a base that may not be written is ErrArg, whatever else is wrong with it.
func TestNotWritten(t *testing.T) {
	num := api.Expr{Op: api.ELit, V: api.Value{Kind: api.VInt, Int: 1}}
	when := func(l ...api.Cond) api.Base { return api.Base{Rules: []api.Rule{{Name: "r", When: l}}} }
	then := func(l ...api.Action) api.Base { return api.Base{Rules: []api.Rule{{Name: "r", Then: l}}} }
	deep := api.Cond{Kind: api.CFrom, Var: "x", E: num}
	for range 31 {
		deep = api.Cond{Kind: api.CNot, Conds: []api.Cond{deep}}
	}
	sum := num
	for range 30 {
		sum = api.Expr{Op: api.EAdd, Args: []api.Expr{sum, num}}
	}
	own := make([]api.Cond, 1)
	own[0] = api.Cond{Kind: api.CNot, Conds: own}
	for i, b := range []api.Base{
		{Rules: make([]api.Rule, 1), Queries: make([]api.Query, 1)}, {Classes: make([]api.Class, 1)}, {Classes: []api.Class{{Name: "end"}}}, {Classes: []api.Class{{Name: "P", Fields: []api.Field{{Name: "x", Type: 6}}}}}, {Classes: []api.Class{{Name: "P", Fields: []api.Field{{Name: "x", Class: "P"}}}}},
		{Rules: []api.Rule{{Name: "\x01"}}}, {Rules: []api.Rule{{Salience: 1<<31 + 1}}}, {Rules: []api.Rule{{Group: "\r"}}}, {Queries: []api.Query{{Name: "q", Params: []string{""}}}}, {Queries: []api.Query{{Name: "not"}}},
		when(api.Cond{}), when(api.Cond{Kind: 99}), when(api.Cond{Kind: api.CNot}), when(api.Cond{Kind: api.CFact}), when(api.Cond{Kind: api.CFact, Class: "P", Fn: "sum"}), when(api.Cond{Kind: api.COr, Alts: [][]api.Cond{own[:0], own[:0]}}), when(api.Cond{Kind: api.CEval, E: api.Expr{Op: api.EGet, Text: "x"}}), when(api.Cond{Kind: api.CEval, E: api.Expr{Op: api.ELit, V: api.Value{Kind: api.VFact, Int: 1}}}), when(api.Cond{Kind: api.CFrom, E: num}), when(deep), when(api.Cond{Kind: api.CEval, E: sum}), when(own[0]),
		when(api.Cond{Kind: api.CQuery, Name: "q", Args: []api.Arg{{}}}), when(api.Cond{Kind: api.CQuery, Name: "q", Args: []api.Arg{{Var: "x", E: num}}}), then(api.Action{}), then(api.Action{Kind: api.AUpdate, E: num}), then(api.Action{Kind: api.AHalt, Text: "a"}), then(api.Action{Kind: api.APrint}), then(api.Action{Kind: api.AInsert, Class: "P", Set: make([]api.Assign, 1)}),
		{Rules: make([]api.Rule, 900)}, {Rules: make([]api.Rule, 1<<20)}, when(make([]api.Cond, 1<<18)...),
	} {
		tells(t, fmt.Sprint("base ", i), b, "", api.ErrArg)
		b.Classes = append([]api.Class{{Name: "A"}, {Name: "A", Super: "B"}}, b.Classes...)
		tells(t, fmt.Sprint("base without a table ", i), b, "", api.ErrArg)
		b.Rules = append([]api.Rule{{Name: "a"}, {Name: "a"}}, b.Rules...)
		tells(t, fmt.Sprint("base with like names ", i), b, "", api.ErrArg)
	}
}

// P7.1: of more lexemes than may be, too.
func TestTooManyLexemes(t *testing.T) {
	rules := read(t, strings.Repeat(`rule "r" when then end `, api.MaxLex/5))
	tells(t, "rules", rules, "r", api.ErrScope)
	rules.Rules = append(rules.Rules, api.Rule{Name: "z"})
	tells(t, "one more", rules, "", api.ErrArg)
	queries := read(t, strings.Repeat(`query q() end `, api.MaxLex/5))
	tells(t, "queries", queries, "q", api.ErrScope)
	queries.Queries = append(queries.Queries, api.Query{Name: "z"})
	tells(t, "one more", queries, "", api.ErrArg)
}

// P7.1: what is too long for a file may be written all the same.
func TestLongerThanAFile(t *testing.T) {
	long := strings.Repeat("x", api.MaxText)
	tells(t, "a long name", api.Base{Rules: []api.Rule{{Name: long}, {Name: long + "y"}}}, "", api.OK)
	tells(t, "two long names", api.Base{Rules: []api.Rule{{Name: long}, {Name: long}}}, long, api.ErrScope)
	tells(t, "classes", api.Base{Classes: []api.Class{{Name: "A"}, {Name: "A"}}, Rules: []api.Rule{{Name: long}, {Name: long}}}, "", api.ErrClass)
	tells(t, "not written", api.Base{Rules: []api.Rule{{Name: long}, {Name: "\x02"}}}, "", api.ErrArg)
}

// P7.4, R3: what holds itself, or stands in many places, ends.
func TestEnds(t *testing.T) {
	b := read(t, classes)
	many := make([]api.Cond, 1<<16)
	for i := range many {
		many[i] = api.Cond{Kind: api.CFact, Class: "P", Var: fmt.Sprint("v", i)}
	}
	if got := check.Binds(b, many); len(got) != len(many) || got[len(got)-1] != "v65535" {
		t.Errorf("%d variables", len(got))
	}
	if got, err := check.Watched(b, many, 1<<16-1); got != nil || err != api.OK {
		t.Errorf("%v, %d", got, err)
	}
	alts := make([][]api.Cond, 1<<12)
	for i := range alts {
		alts[i] = many[i : i+16]
	}
	if got := check.Binds(b, []api.Cond{{Kind: api.COr, Alts: alts}}); got != nil {
		t.Errorf("%d variables of all alternatives", len(got))
	}
	if got := words(check.Binds(b, []api.Cond{{Kind: api.COr, Alts: alts[:16]}})); got != "v15" {
		t.Errorf("%s of all alternatives", got)
	}
	twice := api.Cond{Kind: api.CFact, Class: "P"}
	for range 16 {
		twice = api.Cond{Kind: api.CNot, Conds: []api.Cond{twice, twice}}
	}
	tells(t, "2^16 patterns", api.Base{Classes: b.Classes, Rules: []api.Rule{{Name: "r", When: []api.Cond{twice}}}}, "", api.ErrArg)
	if got := check.Binds(b, []api.Cond{twice}); got != nil {
		t.Errorf("%v", got)
	}
	if _, err := check.Watched(b, []api.Cond{twice, many[0]}, 1); err != api.OK {
		t.Errorf("%d", err)
	}
}
