package parse_test

import (
	"testing"

	"proctor/api"
)

// P5.1: a pattern: its Binds and Tests, each in its order, however they are mixed.
func TestPattern(t *testing.T) {
	readsConds(t, "P()", p())
	readsConds(t, "$p : P()", api.Cond{Kind: api.CFact, Var: "p", Class: "P"})
	readsConds(t, "P(x)", pattern("P", field("x")))
	readsConds(t, "P($x)", pattern("P", variable("x")))
	readsConds(t, "P($x : y)", api.Cond{Kind: api.CFact, Class: "P", Binds: []api.Bind{{Var: "x", Field: "y"}}})
	readsConds(t, "P($x.y, $x == 1, -$x)", pattern("P", get(variable("x"), "y"), op(api.EEq, variable("x"), num(1)), op(api.ENeg, variable("x"))))
	readsConds(t, "$p : P(x > 1, $b : b, $x, $a : a, $b : a, y)", api.Cond{
		Kind: api.CFact, Var: "p", Class: "P",
		Binds: []api.Bind{{Var: "b", Field: "b"}, {Var: "a", Field: "a"}, {Var: "b", Field: "a"}},
		Tests: []api.Expr{op(api.EGt, field("x"), num(1)), variable("x"), field("y")},
	})
	for _, s := range []string{
		"P ^", "P ^x", "P^[]", "P^{}", "P ^: Q()", "P(^", "P(^then", "P(x^", "P(x ^y)", "P(x,^", "P(x, ^)", "P(^, x)", "P(x^; y)", "P(x ^: y)", "P(x^]", "P()^.x", "P()^)", "P(^class)", "P(x == ^)",
		"P($x :^", "P($x : ^)", "P($x : ^1)", "P($x : ^$y)", "P($x : ^int)", "P($x : y^.z)", "P($x : y ^== 1)", "P($x : y ^:", "P($x ^?)", "P($x ^$y)", "P($x ^= 1)", "P(($x ^: y))", "P(-$x ^: y)", "P($x.y ^: z)",
		"$p^", "$p ^P()", "$p ^then", "$p :^", "$p : ^$q", "$p : ^(P())", "$p : ^not (P())", "$p : ^then", "$p : P^", "$p : P ^Q", "$p^, P()", "$p ^?", "$p ^.x", `$p : ^"P"()`, "$p : ^$q : P()",
	} {
		barredHere(t, `rule "r" when `+s)
	}
}

// P5.1: blocks of not and exists.
func TestBlocks(t *testing.T) {
	for word, kind := range map[string]int{"not": api.CNot, "exists": api.CExists} {
		readsConds(t, word+" (P())", api.Cond{Kind: kind, Conds: conds(p())})
		readsConds(t, word+"(P() Q(x) P())P()", api.Cond{Kind: kind, Conds: conds(p(), pattern("Q", field("x")), p())}, p())
		readsConds(t, word+" (not (P()) exists (P() P()))", api.Cond{Kind: kind, Conds: conds(
			api.Cond{Kind: api.CNot, Conds: conds(p())}, api.Cond{Kind: api.CExists, Conds: conds(p(), p())})})
		for _, s := range []string{" ^", " ^P()", " ^then", "(^)", "(^", "(P()^", "(P() ^or P())", "(P()^; P())", "(P()^, P())", "(P() ^then", "(P(^then", "(^1)", "(P())^)", " ^not (P())", " ^$p : P()", "^[P()]", "^{P()}", "(x ^== 1)", "((P() or P())^;"} {
			barredHere(t, `rule "r" when `+word+s)
		}
	}
}

// P5.1: forall: those that call for it, and what must hold.
func TestForall(t *testing.T) {
	readsConds(t, "forall (P() ; Q())", api.Cond{Kind: api.CForall, Conds: conds(p()), Then: conds(pattern("Q"))})
	readsConds(t, "forall(P()Q();Q()P()P())P()", api.Cond{Kind: api.CForall, Conds: conds(p(), pattern("Q")), Then: conds(pattern("Q"), p(), p())}, p())
	for _, s := range []string{"^", " ^P()", "(^; P())", "(^)", "(P()^)", "(P()^", "(P();^", "(P(); ^)", "(P(); P()^; P())", "(P(); P()^", "(P() ^or P())", "(P()^, P())", "(P();^; P())", "(P(); P() ^or P())"} {
		barredHere(t, `rule "r" when forall`+s)
	}
}

// P5.1: or: its alternatives, two or more, within parentheses.
func TestOr(t *testing.T) {
	readsConds(t, "(P() or Q())", api.Cond{Kind: api.COr, Alts: [][]api.Cond{conds(p()), conds(pattern("Q"))}})
	readsConds(t, "(P() Q() or P() or Q() P() P()) P()", api.Cond{Kind: api.COr, Alts: [][]api.Cond{conds(p(), pattern("Q")), conds(p()), conds(pattern("Q"), p(), p())}}, p())
	inner := api.Cond{Kind: api.COr, Alts: [][]api.Cond{conds(p()), conds(p())}}
	readsConds(t, "((P() or P()) or (P() or P()))", api.Cond{Kind: api.COr, Alts: [][]api.Cond{conds(inner), conds(inner)}})
	for _, s := range []string{"(^", "(^)", "(^or P())", "(P()^)", "(P()^", "(P() or^", "(P() or ^)", "(P() or ^or P())", "(P() or P()^", "(P() or P() or ^)", "(P()^; P())", "((P()^) or P())", "(P() or P()^; P())", "P() ^or P()", "(P() ^|| P())", "(P() or P())^)", "(P() ^then"} {
		barredHere(t, `rule "r" when `+s)
	}
}

// P5.1: from, and where its expression ends.
func TestFrom(t *testing.T) {
	from := func(e api.Expr) api.Cond { return api.Cond{Kind: api.CFrom, Var: "x", E: e} }
	readsConds(t, "$x from [1, 2]", from(list(num(1), num(2))))
	readsConds(t, "$x from $y.z", from(get(variable("y"), "z")))
	readsConds(t, "$x from a P()", from(field("a")), p())
	readsConds(t, "$x from a (P() or P())", from(field("a")), api.Cond{Kind: api.COr, Alts: [][]api.Cond{conds(p()), conds(p())}})
	readsConds(t, "$x from $x $x from $x", from(variable("x")), from(variable("x")))
	readsConds(t, "$x from 1 $x : P()", from(num(1)), api.Cond{Kind: api.CFact, Var: "x", Class: "P"})
	readsConds(t, "$x from $x ? q()", from(variable("x")), api.Cond{Kind: api.CQuery, Name: "q"})
	readsConds(t, "$x from 1 eval(true)", from(num(1)), api.Cond{Kind: api.CEval, E: truth(true)})
	readsConds(t, "$x from - 1 not (P())", from(op(api.ENeg, num(1))), api.Cond{Kind: api.CNot, Conds: conds(p())})
	for _, s := range []string{"$x from^", "$x from ^then", "$x from ^: P()", "$x from ^not (P())", "$x from (a^", "$x from a ^1", "$x from a == ^then", "$x from ^from", "x ^from 1", "$x^, $y from 1", "$x from ^{}", "$x from a ^]", "$x from $y ^: 1"} {
		barredHere(t, `rule "r" when `+s)
	}
}

// P5.1: eval of an expression.
func TestEval(t *testing.T) {
	readsConds(t, "eval(true)", api.Cond{Kind: api.CEval, E: truth(true)})
	readsConds(t, "eval((x) || y) P()", api.Cond{Kind: api.CEval, E: op(api.EOr, field("x"), field("y"))}, p())
	for _, s := range []string{"^", " ^true", "(^)", "(^", "(x^", "(x^, y)", "(x ^y)", "(x)^)", "(^eval(x))", "($x ^: y)", "($x ^?)", "(P^())"} {
		barredHere(t, `rule "r" when eval`+s)
	}
}

// P5.1: acc: its variable, its function (7 bars what it bars), its expression, its conditions.
func TestAcc(t *testing.T) {
	acc := func(fn string) api.Cond {
		return api.Cond{Kind: api.CAcc, Var: "s", Fn: fn, E: variable("x"), Conds: conds(p())}
	}
	for _, fn := range []string{"count", "sum", "min", "max", "list", "other"} {
		readsConds(t, "acc($s : "+fn+"($x) over P())", acc(fn))
	}
	readsConds(t, "acc ( $s : sum ( ( $x ) + 1 ) over P() not (P()) ) P()", api.Cond{
		Kind: api.CAcc, Var: "s", Fn: "sum", E: op(api.EAdd, variable("x"), num(1)), Conds: conds(p(), api.Cond{Kind: api.CNot, Conds: conds(p())}),
	}, p())
	for _, s := range []string{
		"^", " ^$s", "(^", "(^)", "(^s : sum(1) over P())", "($s^", "($s ^sum(1) over P())", "($s ^from [])", "($s :^", "($s : ^(1) over P())", "($s : ^text(1) over P())", "($s : ^size(1) over P())", "($s : ^$f(1) over P())", `($s : ^"sum"(1) over P())`,
		"($s : sum^", "($s : sum ^over P())", "($s : sum ^1 over P())", "($s : sum(^) over P())", "($s : sum(1^, 2) over P())", "($s : sum(1 ^over P())", "($s : sum(1)^", "($s : sum(1) ^P())", "($s : sum(1)^)", "($s : sum(1) over^", "($s : sum(1) over ^)", "($s : sum(1) over P()^", "($s : sum(1) over P()^; P())", "($s : sum(1) over P() ^or P())", "($s : sum(1) ^+ 1 over P())", "($s : sum(1) over P() ^over P())", "($s : list^.x(1) over P())",
	} {
		barredHere(t, `rule "r" when acc`+s)
	}
}

// P5.1: a query's arguments: expressions, and variables that it gives.
func TestQuestion(t *testing.T) {
	readsConds(t, "? q()", api.Cond{Kind: api.CQuery, Name: "q"})
	readsConds(t, "?q($a ?, $a, 2, b, $a.b, $b?) P()", api.Cond{Kind: api.CQuery, Name: "q", Args: []api.Arg{
		{Var: "a"}, {E: variable("a")}, {E: num(2)}, {E: field("b")}, {E: get(variable("a"), "b")}, {Var: "b"},
	}}, p())
	for _, s := range []string{
		" ^", " ^(", " ^$q()", " ^? q()", " ^not ()", ` ^"q"()`, " ^size(1)", "q ^", "q ^1", "q( ^", "q(^, 1)", "q(1 ^", "q(1 ^2)", "q(1, ^", "q(1, ^)", "q(1 ^?)", "q(a ^?)", "q(^?)", "q($a ? ^?)", "q($a ? ^$b ?)", "q($a ?^.x)", "q($a ? ^== 1)", "q($a ? ^: x)", "q($a ^: x)", "q($a.b ^?)", "q(($a ^?))", "q(-$a ^?)", "q($a ?^;", "q() ? ^", "q($a ^= 1)",
	} {
		barredHere(t, `rule "r" when ?`+s)
	}
}

// P5.1: where no condition can begin.
func TestNoCondition(t *testing.T) {
	for _, s := range []string{"^1", `^"P"()`, "^)", "^[", "^{", "^;", "^,", "^-", "^!", "^true", "^null", "^size(x)", "^has(x, y)", "^or", "^over", "^from", "^list", "sum ^;", "^insert P {};", "^class P {}", "^salience", "^:", "^.", "^=="} {
		barredHere(t, `rule "r" when `+s+" then end")
		barredHere(t, `rule "r" when P() `+s+" then end")
		barredHere(t, "query q() P() "+s+" end")
	}
}
