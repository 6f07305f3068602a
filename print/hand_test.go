package print_test

import (
	"fmt"
	"strings"
	"testing"

	"proctor/api"
)

// noNames are texts that are no names; those of noVars are not even a variable's.
func noVars() []string {
	return []string{"1", "_a", "a b", " a", "a ", "a\n", "a//", "a-b", "a.b", "$a", "-", "(", "a)", "\"a\"", "a\"", "é", "aé", "a\x00", "\x00", "\xff", strings.Repeat("a", 65), strings.Repeat("a", 1<<20)}
}

func noNames() []string {
	return append(noVars(), strings.Fields("class extends rule query when then end salience group flow noloop lock not exists forall or from eval acc over insert logical update delete focus print halt true false null size has int bool text list any ref")...)
}

// P6.1, P6.2: names: of each place for one.
func TestNamesByHand(t *testing.T) {
	set := func(s string) []api.Assign { return []api.Assign{{Field: "x", E: num(1)}, {Field: s, E: num(1)}} }
	for place, base := range map[string]func(s string) api.Base{
		"class": func(s string) api.Base { return api.Base{Classes: []api.Class{{Name: s}}} },
		"super": func(s string) api.Base { return api.Base{Classes: []api.Class{{Name: "P", Super: s}}} },
		"field": func(s string) api.Base {
			return api.Base{Classes: []api.Class{{Name: "P", Fields: []api.Field{{Name: s}}}}}
		},
		"ref": func(s string) api.Base {
			return api.Base{Classes: []api.Class{{Name: "P", Fields: []api.Field{{Name: "x", Type: api.TRef, Class: s}}}}}
		},
		"query":   func(s string) api.Base { return api.Base{Queries: []api.Query{{Name: s}}} },
		"pattern": func(s string) api.Base { return baseOf(pattern(s)) },
		"bind": func(s string) api.Base {
			return baseOf(api.Cond{Kind: api.CFact, Class: "P", Binds: []api.Bind{{Var: "x", Field: s}}})
		},
		"function": func(s string) api.Base {
			return baseOf(api.Cond{Kind: api.CAcc, Var: "s", Fn: s, E: num(1), Conds: conds(p())})
		},
		"question":  func(s string) api.Base { return baseOf(api.Cond{Kind: api.CQuery, Name: s}) },
		"insert":    func(s string) api.Base { return baseThen(api.Action{Kind: api.AInsert, Class: s}) },
		"logical":   func(s string) api.Base { return baseThen(api.Action{Kind: api.ALogical, Class: s}) },
		"set":       func(s string) api.Base { return baseThen(api.Action{Kind: api.AInsert, Class: "P", Set: set(s)}) },
		"update":    func(s string) api.Base { return baseThen(api.Action{Kind: api.AUpdate, E: num(1), Set: set(s)}) },
		"own field": func(s string) api.Base { return baseOf(pattern("P", field(s))) },
		"get":       func(s string) api.Base { return baseOf(pattern("P", get(num(1), s))) },
	} {
		for _, s := range noNames() {
			if place != "function" || s != "list" {
				bars(t, fmt.Sprintf("%s %.70q", place, s), base(s))
			}
		}
		if place != "super" {
			bars(t, place+" without a name", base(""))
		}
		for _, s := range []string{"a", "Z9_", "count", "End", "a_", strings.Repeat("z", 64)} {
			fine(t, place+" "+s, base(s))
		}
	}
}

// P6.1, P6.2: variables: keywords are as good as others.
func TestVarsByHand(t *testing.T) {
	for place, base := range map[string]func(s string) api.Base{
		"pattern": func(s string) api.Base { return baseOf(api.Cond{Kind: api.CFact, Var: s, Class: "P"}) },
		"bind": func(s string) api.Base {
			return baseOf(api.Cond{Kind: api.CFact, Class: "P", Binds: []api.Bind{{Var: s, Field: "x"}}})
		},
		"from": func(s string) api.Base { return baseOf(api.Cond{Kind: api.CFrom, Var: s, E: num(1)}) },
		"acc": func(s string) api.Base {
			return baseOf(api.Cond{Kind: api.CAcc, Var: s, Fn: "sum", E: num(1), Conds: conds(p())})
		},
		"argument": func(s string) api.Base {
			return baseOf(api.Cond{Kind: api.CQuery, Name: "q", Args: []api.Arg{{Var: s}}})
		},
		"param":      func(s string) api.Base { return api.Base{Queries: []api.Query{{Name: "q", Params: []string{s}}}} },
		"last param": func(s string) api.Base { return api.Base{Queries: []api.Query{{Name: "q", Params: []string{"a", s}}}} },
		"expression": func(s string) api.Base { return baseOf(pattern("P", variable(s))) },
	} {
		for _, s := range noVars() {
			bars(t, fmt.Sprintf("%s %.70q", place, s), base(s))
		}
		if place != "pattern" {
			bars(t, place+" without a name", base(""))
		}
		for _, s := range []string{"a", "Z9_", "rule", "list", "true", strings.Repeat("z", 64)} {
			fine(t, place+" "+s, base(s))
		}
	}
}

// P6.2: expressions with what their kind has no place for, or without what it has.
func TestExprsByHand(t *testing.T) {
	for i, s := range shapes() {
		args := []api.Expr{field("a"), field("b")}[:s.args:s.args]
		e := func() api.Expr { return s.make(args...) }
		for j, change := range []func(e *api.Expr){
			func(e *api.Expr) { e.V.Bool = true }, func(e *api.Expr) { e.V.Text = "a" },
			func(e *api.Expr) { e.V.List = make([]api.Value, 1) }, func(e *api.Expr) { e.V.Kind++ }, func(e *api.Expr) { e.V.Int = -1 },
		} {
			e := e()
			change(&e)
			barsExpr(t, fmt.Sprint(i, " with value ", j), e)
		}
		with, many := e(), e()
		with.Text += "?"
		barsExpr(t, fmt.Sprint(i, " with a text"), with)
		if with.Op != api.EVar && with.Op != api.EField && with.Op != api.EGet {
			with.Text = "a"
			barsExpr(t, fmt.Sprint(i, " with a name"), with)
		}
		many.Args = append(many.Args, field("c"))
		if many.Op != api.EList {
			barsExpr(t, fmt.Sprint(i, " with an operand more"), many)
		}
		many.Args = append([]api.Expr{}, args...)
		for k := range args {
			many.Args[k] = api.Expr{}
			barsExpr(t, fmt.Sprint(i, " with an operand of no kind"), many)
			many.Args[k] = args[k]
			if many.Op != api.EList {
				few := e()
				few.Args = few.Args[:k]
				barsExpr(t, fmt.Sprint(i, " with ", k, " operands"), few)
			}
		}
		if e := e(); len(e.Args) == 0 {
			e.Args = []api.Expr{}
			fineExpr(t, fmt.Sprint(i, " with an empty list"), e)
		}
	}
	for _, kind := range []int{api.ENone, -1, api.EHas + 1, 99, -1 << 63, 1<<63 - 1} {
		for n := range 4 {
			barsExpr(t, kind, op(kind, []api.Expr{field("a"), field("b"), field("c")}[:n]...))
			barsExpr(t, kind, api.Expr{Op: kind, Text: "a", Args: []api.Expr{field("a"), field("b"), field("c")}[:n]})
		}
	}
	barsExpr(t, "nothing", api.Expr{})
}

// P6.2: literals: of values that no lexeme says.
func TestLiteralsByHand(t *testing.T) {
	one := []api.Value{{}}
	for i, v := range []api.Value{
		{Kind: api.VList}, {Kind: api.VList, List: []api.Value{{Kind: api.VInt, Int: 1}}}, {Kind: api.VFact, Int: 1}, {Kind: api.VFact}, {Kind: -1}, {Kind: 6}, {Kind: 1 << 62},
		{Bool: true}, {Int: 1}, {Text: "a"}, {List: one},
		{Kind: api.VBool, Int: 1}, {Kind: api.VBool, Bool: true, Text: "true"}, {Kind: api.VBool, List: one},
		{Kind: api.VInt, Int: -1}, {Kind: api.VInt, Int: 1, Bool: true}, {Kind: api.VInt, Text: "1"}, {Kind: api.VInt, List: one},
		{Kind: api.VText, Text: "a\r"}, {Kind: api.VText, Bool: true}, {Kind: api.VText, Text: "1", Int: 1}, {Kind: api.VText, List: one},
	} {
		barsExpr(t, fmt.Sprint("literal ", i), lit(v))
		barsExpr(t, fmt.Sprint("literal within ", i), op(api.ENeg, lit(v)))
	}
	for _, v := range []api.Value{{}, {Kind: api.VBool}, {Kind: api.VInt}, {Kind: api.VText}} {
		v.List = []api.Value{}
		fineExpr(t, "a literal with an empty list", lit(v))
		barsExpr(t, "a literal with a text", api.Expr{Op: api.ELit, V: v, Text: "a"})
		barsExpr(t, "a literal with operands", api.Expr{Op: api.ELit, V: v, Args: []api.Expr{num(1)}})
	}
}

// condFields are the fields of a condition, each set to what would do in a kind that has it.
func condFields() map[string]func(c *api.Cond) {
	return map[string]func(c *api.Cond){
		"Var":   func(c *api.Cond) { c.Var = "x" },
		"Class": func(c *api.Cond) { c.Class = "P" },
		"Binds": func(c *api.Cond) { c.Binds = []api.Bind{{Var: "x", Field: "x"}} },
		"Tests": func(c *api.Cond) { c.Tests = []api.Expr{num(1)} },
		"Conds": func(c *api.Cond) { c.Conds = conds(p()) },
		"Then":  func(c *api.Cond) { c.Then = conds(p()) },
		"Alts":  func(c *api.Cond) { c.Alts = [][]api.Cond{{p()}, {p()}} },
		"E":     func(c *api.Cond) { c.E = num(1) },
		"Fn":    func(c *api.Cond) { c.Fn = "sum" },
		"Name":  func(c *api.Cond) { c.Name = "q" },
		"Args":  func(c *api.Cond) { c.Args = []api.Arg{{Var: "x"}} },
	}
}

// P6.1, P6.2: each kind of condition with each field that it hasn't, and without each that it must have.
func TestCondsByHand(t *testing.T) {
	fields := condFields()
	for kind, has := range map[int]struct{ must, may string }{
		api.CFact: {"Class", "Var Binds Tests"}, api.CNot: {"Conds", ""}, api.CExists: {"Conds", ""}, api.CForall: {"Conds Then", ""}, api.COr: {"Alts", ""},
		api.CFrom: {"Var E", ""}, api.CAcc: {"Var Fn E Conds", ""}, api.CEval: {"E", ""}, api.CQuery: {"Name", "Args"},
	} {
		with := func(names ...string) api.Cond {
			c := api.Cond{Kind: kind}
			for _, s := range names {
				fields[s](&c)
			}
			return c
		}
		must, may := strings.Fields(has.must), strings.Fields(has.may)
		fineCond(t, kind, with(must...))
		fineCond(t, kind, with(append(may, must...)...))
		for i := range must {
			barsCond(t, fmt.Sprint(kind, " without ", must[i]), with(append(must[:i:i], must[i+1:]...)...))
		}
		for name := range fields {
			if !strings.Contains(" "+has.must+" "+has.may+" ", " "+name+" ") {
				barsCond(t, fmt.Sprint(kind, " with ", name), with(append(must, name)...))
				bars(t, fmt.Sprint(kind, " with ", name), api.Base{Queries: []api.Query{{Name: "q", When: conds(p(), with(append(must, name)...))}}})
			}
		}
	}
	for _, kind := range []int{api.CNone, -1, api.CQuery + 1, 99, -1 << 63, 1<<63 - 1} {
		c := api.Cond{Kind: kind}
		barsCond(t, kind, c)
		for name, set := range fields {
			set(&c)
			barsCond(t, fmt.Sprint(kind, name), c)
		}
	}
}

// P6.1, P6.2: parts of conditions that are none.
func TestCondPartsByHand(t *testing.T) {
	none := api.Cond{}
	for i, c := range []api.Cond{
		not(none), not(p(), none), not(none, p()), {Kind: api.CNot, Conds: conds()}, {Kind: api.CExists, Conds: conds(none)},
		{Kind: api.CForall, Conds: conds(none), Then: conds(p())}, {Kind: api.CForall, Conds: conds(p()), Then: conds(none)}, {Kind: api.CForall, Conds: conds(), Then: conds(p())}, {Kind: api.CForall, Conds: conds(p()), Then: conds()},
		{Kind: api.COr, Alts: [][]api.Cond{{p()}}}, {Kind: api.COr, Alts: [][]api.Cond{nil, nil}}, {Kind: api.COr, Alts: [][]api.Cond{{}, {p()}}}, {Kind: api.COr, Alts: [][]api.Cond{{p()}, {p()}, {}}}, {Kind: api.COr, Alts: [][]api.Cond{{p()}, {none}}},
		{Kind: api.CFact, Class: "P", Binds: []api.Bind{{}}}, {Kind: api.CFact, Class: "P", Binds: []api.Bind{{Var: "x"}}}, {Kind: api.CFact, Class: "P", Binds: []api.Bind{{Field: "x"}}}, {Kind: api.CFact, Class: "P", Tests: []api.Expr{{}}}, {Kind: api.CFact, Class: "P", Tests: []api.Expr{num(1), {}}},
		{Kind: api.CAcc, Var: "s", Fn: "sum", E: num(1), Conds: conds(none)}, {Kind: api.CAcc, Var: "s", Fn: "int", E: num(1), Conds: conds(p())},
		{Kind: api.CQuery, Name: "q", Args: []api.Arg{{}}}, {Kind: api.CQuery, Name: "q", Args: []api.Arg{{Var: "x", E: num(1)}}}, {Kind: api.CQuery, Name: "q", Args: []api.Arg{{Var: "x"}, {}}},
		{Kind: api.CQuery, Name: "q", Args: []api.Arg{{Var: "x", E: api.Expr{Text: "x"}}}}, {Kind: api.CQuery, Name: "q", Args: []api.Arg{{Var: "x", E: api.Expr{V: api.Value{Int: 1}}}}}, {Kind: api.CQuery, Name: "q", Args: []api.Arg{{Var: "x", E: api.Expr{Args: []api.Expr{{}}}}}},
		{Kind: api.CNot, Conds: conds(p()), E: api.Expr{Text: "a"}}, {Kind: api.CNot, Conds: conds(p()), E: api.Expr{V: api.Value{Kind: 1}}}, {Kind: api.CNot, Conds: conds(p()), E: api.Expr{Args: []api.Expr{{}}}},
	} {
		barsCond(t, fmt.Sprint("condition ", i), c)
		bars(t, fmt.Sprint("condition ", i), baseOf(p(), c))
	}
	empty := api.Cond{Kind: api.CFact, Class: "P", Binds: []api.Bind{}, Tests: []api.Expr{}, Conds: conds(), Then: conds(), Alts: [][]api.Cond{}, Args: []api.Arg{}, E: api.Expr{Args: []api.Expr{}}}
	fineCond(t, "empty lists", empty)
}

// P6.1: each kind of action with each field that it hasn't, and without each that it must have.
func TestActionsByHand(t *testing.T) {
	fields := map[string]func(a *api.Action){
		"Class": func(a *api.Action) { a.Class = "P" },
		"Set":   func(a *api.Action) { a.Set = []api.Assign{{Field: "x", E: num(1)}} },
		"E":     func(a *api.Action) { a.E = num(1) },
		"Text":  func(a *api.Action) { a.Text = "g" },
	}
	for kind, has := range map[int]struct{ must, may string }{
		api.AInsert: {"Class", "Set"}, api.ALogical: {"Class", "Set"}, api.AUpdate: {"E Set", ""}, api.ADelete: {"E", ""}, api.AFocus: {"", "Text"}, api.APrint: {"E", ""}, api.AHalt: {"", ""},
	} {
		with := func(names ...string) api.Base {
			a := api.Action{Kind: kind}
			for _, s := range names {
				fields[s](&a)
			}
			return baseThen(a)
		}
		must, may := strings.Fields(has.must), strings.Fields(has.may)
		fine(t, kind, with(must...))
		fine(t, kind, with(append(may, must...)...))
		for i := range must {
			bars(t, fmt.Sprint(kind, " without ", must[i]), with(append(must[:i:i], must[i+1:]...)...))
		}
		for name := range fields {
			if !strings.Contains(" "+has.must+" "+has.may+" ", " "+name+" ") {
				bars(t, fmt.Sprint(kind, " with ", name), with(append(must, name)...))
			}
		}
	}
	one := []api.Assign{{Field: "x", E: num(1)}}
	for i, a := range []api.Action{
		{}, {Kind: -1}, {Kind: api.AHalt + 1}, {Kind: -1 << 63}, {Kind: 1<<63 - 1}, {Kind: 99, Class: "P", Set: one, E: num(1), Text: "a"},
		{Kind: api.AInsert, Class: "P", Set: []api.Assign{{}}}, {Kind: api.AInsert, Class: "P", Set: []api.Assign{{Field: "x"}}}, {Kind: api.AInsert, Class: "P", Set: []api.Assign{{E: num(1)}}}, {Kind: api.AUpdate, E: num(1), Set: []api.Assign{}}, {Kind: api.AUpdate, E: num(-1), Set: one},
		{Kind: api.AHalt, E: api.Expr{Text: "a"}}, {Kind: api.AHalt, E: api.Expr{V: api.Value{Bool: true}}}, {Kind: api.AFocus, Text: "\x1f"}, {Kind: api.APrint, E: api.Expr{Op: 99}},
	} {
		bars(t, fmt.Sprint("action ", i), baseThen(a))
		bars(t, fmt.Sprint("action ", i), baseThen(halt(), a, halt()))
	}
	fine(t, "empty lists", baseThen(api.Action{Kind: api.AHalt, Set: []api.Assign{}, E: api.Expr{Args: []api.Expr{}}}))
}

// P6.1: classes and their fields.
func TestClassesByHand(t *testing.T) {
	class := func(f api.Field) api.Base {
		return api.Base{Classes: []api.Class{{Name: "P", Fields: []api.Field{{Name: "x"}, f, {Name: "x"}}}}}
	}
	for kind := range api.TRef {
		fine(t, kind, class(api.Field{Name: "a", Type: kind}))
		bars(t, kind, class(api.Field{Name: "a", Type: kind, Class: "P"}))
		bars(t, kind, class(api.Field{Type: kind}))
	}
	fine(t, "ref", class(api.Field{Name: "a", Type: api.TRef, Class: "P"}))
	bars(t, "ref of none", class(api.Field{Name: "a", Type: api.TRef}))
	bars(t, "nothing", class(api.Field{}))
	for _, kind := range []int{-1, api.TRef + 1, 99, -1 << 63, 1<<63 - 1} {
		bars(t, kind, class(api.Field{Name: "a", Type: kind}))
		bars(t, kind, class(api.Field{Name: "a", Type: kind, Class: "P"}))
	}
	bars(t, "no name", api.Base{Classes: []api.Class{{}}})
	bars(t, "the second", api.Base{Classes: []api.Class{{Name: "P"}, {Name: "P", Super: "P "}}})
	bars(t, "a query without a name", api.Base{Queries: []api.Query{{}}})
	bars(t, "the second query", api.Base{Queries: []api.Query{{Name: "q"}, {Name: "not"}}})
	bars(t, "a query's condition", api.Base{Queries: []api.Query{{Name: "q", When: conds(p(), api.Cond{})}}})
	bars(t, "the second rule", api.Base{Rules: []api.Rule{{Name: "r"}, {Name: "\x7f\x0b"}}})
}
