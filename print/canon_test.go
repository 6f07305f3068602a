package print_test

import (
	"math"
	"testing"

	"proctor/api"
)

// P6.1: the whole: classes first, then rules, then queries, each in their order.
func TestBase(t *testing.T) {
	writes(t, api.Base{}, "")
	writes(t, api.Base{Classes: []api.Class{}, Rules: []api.Rule{}, Queries: []api.Query{}}, "")
	rewrites(t, "class P { x : int, y : ref P } rule \"r\" salience -1 when $p : P(x + 1 == 2, $a : x) then halt; end",
		`class P { x : int y : ref P } rule "r" salience - 1 when $p : P ( $a : x , x + 1 == 2 ) then halt ; end`)
	rewrites(t, `query b() end rule "b" when then end class B {} query a() end rule "a" when then end class A {}`,
		`class B { } class A { } rule "b" when then end rule "a" when then end query b ( ) end query a ( ) end`)
	rewrites(t, " // nothing\n", "")
}

// P6.1: classes; no `,` between fields.
func TestClass(t *testing.T) {
	class := func(c api.Class, want string) {
		t.Helper()
		writes(t, api.Base{Classes: []api.Class{c}}, want)
		writes(t, api.Base{Classes: []api.Class{c, {Name: "Z"}, c}}, want+" class Z { } "+want)
	}
	class(api.Class{Name: "P"}, "class P { }")
	class(api.Class{Name: "P", Super: "Q", Fields: []api.Field{}}, "class P extends Q { }")
	class(api.Class{Name: "P", Fields: []api.Field{{Name: "x", Type: api.TInt}}}, "class P { x : int }")
	class(api.Class{Name: "P", Super: "P", Fields: []api.Field{
		{Name: "a", Type: api.TAny}, {Name: "b", Type: api.TBool}, {Name: "c", Type: api.TInt}, {Name: "d", Type: api.TText},
		{Name: "e", Type: api.TList}, {Name: "f", Type: api.TRef, Class: "P"}, {Name: "g", Type: api.TRef, Class: "g"}, {Name: "a", Type: api.TAny},
	}}, "class P extends P { a : any b : bool c : int d : text e : list f : ref P g : ref g a : any }")
	rewrites(t, "class P{a:int,b:text c:list,d:ref P,e:any}", "class P { a : int b : text c : list d : ref P e : any }")
}

// P6.1: attrs in one order, none that is zero.
func TestAttrs(t *testing.T) {
	rule := func(r api.Rule, attrs string) {
		t.Helper()
		r.Name = "r"
		writes(t, api.Base{Rules: []api.Rule{r}}, `rule "r" `+attrs+`when then end`)
	}
	rule(api.Rule{}, "")
	rule(api.Rule{Salience: 5}, "salience 5 ")
	rule(api.Rule{Salience: -5}, "salience - 5 ")
	rule(api.Rule{Salience: 1 << 31}, "salience 2147483648 ")
	rule(api.Rule{Salience: -1 << 31}, "salience - 2147483648 ")
	rule(api.Rule{Group: "g"}, `group "g" `)
	rule(api.Rule{Flow: "f"}, `flow "f" `)
	rule(api.Rule{NoLoop: true}, "noloop ")
	rule(api.Rule{Lock: true}, "lock ")
	rule(api.Rule{Salience: 1, Group: "g\n", Flow: `"`, NoLoop: true, Lock: true}, `salience 1 group "g\n" flow "\"" noloop lock `)
	rewrites(t, `rule "" lock lock noloop flow "" flow "x" group "y" group "" salience 3 salience -007 when then end`, `rule "" salience - 7 flow "x" noloop lock when then end`)
	rewrites(t, `rule "r" salience -0 group "" flow "" when then end`, `rule "r" when then end`)
}

// P6.1: rules' names, groups and flows are any texts.
func TestNames(t *testing.T) {
	writes(t, api.Base{Rules: []api.Rule{{}}}, `rule "" when then end`)
	writes(t, api.Base{Rules: []api.Rule{{Name: "a b", Group: "end", Flow: " "}}}, `rule "a b" group "end" flow " " when then end`)
	writes(t, api.Base{Rules: []api.Rule{{Name: "\"\\\n\t//\xff", Group: "\\", Flow: "\t"}}}, "rule \"\\\"\\\\\\n\\t//\xff\" group \"\\\\\" flow \"\\t\" when then end")
}

// P6.1: queries and their params.
func TestQuery(t *testing.T) {
	query := func(q api.Query, want string) {
		t.Helper()
		writes(t, api.Base{Queries: []api.Query{q}}, want)
	}
	query(api.Query{Name: "q"}, "query q ( ) end")
	query(api.Query{Name: "q", Params: []string{"a"}}, "query q ( $a ) end")
	query(api.Query{Name: "q", Params: []string{"a", "end", "a"}, When: conds(p(), p())}, "query q ( $a , $end , $a ) P ( ) P ( ) end")
}

// P6.1, P6.2: patterns: Binds ahead of Tests.
func TestPattern(t *testing.T) {
	writesCond(t, p(), "P ( )")
	writesCond(t, api.Cond{Kind: api.CFact, Var: "p", Class: "P"}, "$p : P ( )")
	writesCond(t, pattern("P", field("x")), "P ( x )")
	writesCond(t, pattern("P", field("x"), variable("x"), op(api.EOr, field("x"), field("y"))), "P ( x , $x , x || y )")
	writesCond(t, api.Cond{Kind: api.CFact, Class: "P", Binds: []api.Bind{{Var: "x", Field: "y"}}}, "P ( $x : y )")
	writesCond(t, api.Cond{
		Kind: api.CFact, Var: "when", Class: "P", Binds: []api.Bind{{Var: "x", Field: "y"}, {Var: "end", Field: "y"}}, Tests: []api.Expr{get(variable("x"), "y"), op(api.EEq, variable("x"), num(1))},
	}, "$when : P ( $x : y , $end : y , $x . y , $x == 1 )")
	rewrites(t, when("P(a, $x : b, $y == 1, $z : c)"), when("P ( $x : b , $z : c , a , $y == 1 )"))
}

// P6.1, P6.2: conditions of conditions.
func TestNested(t *testing.T) {
	or := func(alts ...[]api.Cond) api.Cond { return api.Cond{Kind: api.COr, Alts: alts} }
	writesCond(t, not(p()), "not ( P ( ) )")
	writesCond(t, not(p(), not(p()), p()), "not ( P ( ) not ( P ( ) ) P ( ) )")
	writesCond(t, api.Cond{Kind: api.CExists, Conds: conds(p(), p())}, "exists ( P ( ) P ( ) )")
	writesCond(t, api.Cond{Kind: api.CForall, Conds: conds(p()), Then: conds(pattern("Q"))}, "forall ( P ( ) ; Q ( ) )")
	writesCond(t, api.Cond{Kind: api.CForall, Conds: conds(p(), not(p())), Then: conds(p(), p())}, "forall ( P ( ) not ( P ( ) ) ; P ( ) P ( ) )")
	writesCond(t, or(conds(p()), conds(pattern("Q"))), "( P ( ) or Q ( ) )")
	writesCond(t, or(conds(p(), p()), conds(p()), conds(p(), p(), p())), "( P ( ) P ( ) or P ( ) or P ( ) P ( ) P ( ) )")
	writesCond(t, or(conds(or(conds(p()), conds(p()))), conds(p(), or(conds(p()), conds(p())))), "( ( P ( ) or P ( ) ) or P ( ) ( P ( ) or P ( ) ) )")
}

// P6.1, P6.2: conditions of expressions, and where a from's expression ends.
func TestOfExpr(t *testing.T) {
	writesCond(t, from(list(num(1))), "$x from [ 1 ]")
	writesCond(t, from(op(api.EOr, op(api.EAnd, field("a"), field("b")), op(api.ENot, field("c")))), "$x from a && b || ! c")
	for s, c := range map[string]api.Cond{"$y : P ( )": {Kind: api.CFact, Var: "y", Class: "P"}, "( P ( ) or P ( ) )": {Kind: api.COr, Alts: [][]api.Cond{conds(p()), conds(p())}}, "? q ( )": {Kind: api.CQuery, Name: "q"}, "not ( P ( ) )": not(p()), "$x from 1": from(num(1))} {
		writes(t, baseOf(from(variable("y")), c), when("$x from $y "+s))
	}
	writesCond(t, api.Cond{Kind: api.CEval, E: truth(true)}, "eval ( true )")
	writesCond(t, api.Cond{Kind: api.CEval, E: op(api.EOr, field("a"), field("b"))}, "eval ( a || b )")
}

// P6.1, P6.2: accs; one function's name is a keyword.
func TestAcc(t *testing.T) {
	acc := func(fn string, l ...api.Cond) api.Cond {
		return api.Cond{Kind: api.CAcc, Var: "s", Fn: fn, E: op(api.EAdd, variable("x"), num(1)), Conds: l}
	}
	for _, fn := range []string{"count", "sum", "min", "max", "list", "other"} {
		writesCond(t, acc(fn, p()), "acc ( $s : "+fn+" ( $x + 1 ) over P ( ) )")
	}
	writesCond(t, acc("sum", p(), acc("list", p()), p()), "acc ( $s : sum ( $x + 1 ) over P ( ) acc ( $s : list ( $x + 1 ) over P ( ) ) P ( ) )")
}

// P6.1, P6.2: a query's arguments.
func TestQuestion(t *testing.T) {
	writesCond(t, api.Cond{Kind: api.CQuery, Name: "q"}, "? q ( )")
	writesCond(t, api.Cond{Kind: api.CQuery, Name: "q", Args: []api.Arg{{Var: "a"}}}, "? q ( $a ? )")
	writesCond(t, api.Cond{Kind: api.CQuery, Name: "q", Args: []api.Arg{{E: variable("a")}, {Var: "has"}, {E: op(api.EOr, num(1), field("b"))}, {Var: "a"}}}, "? q ( $a , $has ? , 1 || b , $a ? )")
}

// P6.1: actions.
func TestActions(t *testing.T) {
	sum := op(api.EAdd, field("a"), num(1))
	for word, kind := range map[string]int{"insert": api.AInsert, "logical": api.ALogical} {
		writesAction(t, api.Action{Kind: kind, Class: "P"}, word+" P { } ;")
		writesAction(t, api.Action{Kind: kind, Class: "P", Set: []api.Assign{{Field: "x", E: num(1)}}}, word+" P { x = 1 } ;")
		writesAction(t, api.Action{Kind: kind, Class: "P", Set: []api.Assign{{Field: "x", E: sum}, {Field: "x", E: op(api.EEq, sum, sum)}}}, word+" P { x = a + 1 , x = a + 1 == a + 1 } ;")
	}
	writesAction(t, api.Action{Kind: api.AUpdate, E: variable("p"), Set: []api.Assign{{Field: "x", E: num(1)}}}, "update $p { x = 1 } ;")
	writesAction(t, api.Action{Kind: api.AUpdate, E: sum, Set: []api.Assign{{Field: "x", E: num(1)}, {Field: "y", E: field("x")}}}, "update a + 1 { x = 1 , y = x } ;")
	writesAction(t, api.Action{Kind: api.ADelete, E: variable("p")}, "delete $p ;")
	writesAction(t, show(op(api.EOr, sum, sum)), "print a + 1 || a + 1 ;")
	writesAction(t, api.Action{Kind: api.AFocus}, `focus "" ;`)
	writesAction(t, api.Action{Kind: api.AFocus, Text: "a \"b\""}, `focus "a \"b\"" ;`)
	writesAction(t, halt(), "halt ;")
}

// P6.2: atoms; numbers and their ends.
func TestAtoms(t *testing.T) {
	writesExpr(t, num(0), "0")
	writesExpr(t, num(42), "42")
	writesExpr(t, num(math.MaxInt64), "9223372036854775807")
	writesExpr(t, op(api.ENeg, num(math.MaxInt64)), "- 9223372036854775807")
	writesExpr(t, truth(true), "true")
	writesExpr(t, truth(false), "false")
	writesExpr(t, lit(api.Value{}), "null")
	writesExpr(t, lit(api.Value{List: []api.Value{}}), "null")
	writesExpr(t, variable("a"), "$a")
	writesExpr(t, variable("rule"), "$rule")
	writesExpr(t, field("a_1"), "a_1")
	writesExpr(t, field("sum"), "sum")
	writesExpr(t, list(), "[ ]")
	writesExpr(t, list(num(1)), "[ 1 ]")
	writesExpr(t, list(list(), op(api.EOr, field("a"), field("b")), str("c")), `[ [ ] , a || b , "c" ]`)
	writesExpr(t, op(api.ESize, field("a")), "size ( a )")
	writesExpr(t, op(api.EHas, list(num(1)), op(api.EAnd, field("a"), field("b"))), "has ( [ 1 ] , a && b )")
	rewritesExpr(t, "(((007)))", "7")
}

// P6.2: quoted texts: each byte that a text may have, as it is written.
func TestTexts(t *testing.T) {
	writesExpr(t, str(""), `""`)
	writesExpr(t, str("a b // c"), `"a b // c"`)
	writesExpr(t, str("true"), `"true"`)
	writesExpr(t, str("\"\\\n\t"), `"\"\\\n\t"`)
	writesExpr(t, str(`\n\t\"`), `"\\n\\t\\\""`)
	writesExpr(t, str("é世\xff\xc3"), "\"é世\xff\xc3\"")
	for c := range 256 {
		s := string([]byte{byte(c)})
		want := s
		switch {
		case s == `"` || s == `\`:
			want = `\` + s
		case s == "\n":
			want = `\n`
		case s == "\t":
			want = `\t`
		case c < 32:
			for _, s := range []string{s, "a" + s, s + "a", "\n" + s + "\""} {
				barsExpr(t, c, str(s))
				bars(t, c, api.Base{Rules: []api.Rule{{Name: s}}})
				bars(t, c, api.Base{Rules: []api.Rule{{Group: s}}})
				bars(t, c, api.Base{Rules: []api.Rule{{Flow: s}}})
				bars(t, c, baseThen(api.Action{Kind: api.AFocus, Text: s}))
			}
			continue
		}
		writesExpr(t, str(s), `"`+want+`"`)
		writesExpr(t, str("a"+s+"b"+s), `"a`+want+"b"+want+`"`)
		writes(t, api.Base{Rules: []api.Rule{{Name: s, Group: s, Flow: s, Then: []api.Action{{Kind: api.AFocus, Text: s}}}}},
			`rule "`+want+`" group "`+want+`" flow "`+want+`" when then focus "`+want+`" ; end`)
	}
}
