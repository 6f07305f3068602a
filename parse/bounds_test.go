package parse_test

import (
	"fmt"
	"strings"
	"testing"

	"proctor/api"
	"proctor/parse"
)

// P5.1, P5.2: names and vars as long as may be; longer ones are barred at themselves, wherever they stand.
func TestNames(t *testing.T) {
	for n, may := range map[int]bool{1: true, 63: true, 64: true, 65: false, 66: false, 1000: false} {
		s := "n" + strings.Repeat("_", n-1)
		for _, text := range []string{
			"class ^%s {}", "class A extends ^%s {}", "class A { ^%s : int }", "class A { x : ref ^%s }", "query ^%s() end", "query q(^$%s) end",
			when("^%s()"), when("^$%s : P()"), when("$p : ^%s()"), when("P(^$%s : x)"), when("P($x : ^%s)"), when("P(^%s)"), when("P(^$%s)"), when("P(^$%s > 1)"), when("P(x.^%s)"), when("^$%s from 1"), when("acc(^$%s : sum(1) over P())"), when("acc($s : ^%s(1) over P())"), when("? ^%s()"), when("? q(^$%s ?)"), when("? q(^$%s)"),
			then("insert ^%s {};"), then("logical ^%s {};"), then("insert A { ^%s = 1 };"), then("update 1 { ^%s = 1 };"), then("print ^$%s;"), then("print ^%s;"),
		} {
			whole := fmt.Sprintf(text, s)
			if may {
				if _, at, err := parse.Parse(strings.Replace(whole, "^", "", 1)); at != 0 || err != api.OK {
					t.Errorf("%.100s: %d at %d", whole, err, at)
				}
			} else {
				barredHere(t, whole)
			}
		}
	}
	readsExpr(t, strings.Repeat("z", 64), field(strings.Repeat("z", 64)))
	readsExpr(t, "$"+strings.Repeat("z", 64), variable(strings.Repeat("z", 64)))
	barredExpr(t, "1 + "+strings.Repeat("z", 65), 4)
	barredExpr(t, "$"+strings.Repeat("z", 65)+" )", 0)
}

// P5.1: texts are of any length: those of rules, groups, flows, focuses, expressions.
func TestTexts(t *testing.T) {
	s := strings.Repeat("x", 10000)
	readsRule(t, fmt.Sprintf(`rule "%s" group "%s" flow "%s" when then focus "%s"; print "%s"; end`, s, s, s, s, s), api.Rule{
		Name: s, Group: s, Flow: s, Then: []api.Action{{Kind: api.AFocus, Text: s}, {Kind: api.APrint, E: str(s)}},
	})
}

// P5.1: a keyword is no name: in none of the places for names; as a var's word it is as good as any.
func TestKeywords(t *testing.T) {
	for _, s := range strings.Fields("class extends rule query when then end salience group flow noloop lock not exists forall or from eval acc over insert logical update delete focus print halt true false null size has int bool text list any ref") {
		for _, text := range []string{"class ^%s {}", "class A extends ^%s {}", "class A { ^%s : int }", "class A { x : ref ^%s }", "query ^%s() end", when("$p : ^%s()"), when("P($x : ^%s)"), when("P(x.^%s)"), when("? ^%s()"), then("insert ^%s {};"), then("insert A { ^%s = 1 };"), then("update 1 { ^%s = 1 };")} {
			barredHere(t, fmt.Sprintf(text, s))
		}
		if s != "list" {
			barredHere(t, when("acc($s : ^"+s+"(1) over P())"))
		}
		readsExpr(t, "$"+s, variable(s))
	}
}

// nested has n of head within one another, around core.
func nested(n int, head, core, tail string) string {
	return strings.Repeat(head, n) + core + strings.Repeat(tail, n)
}

// P5.2: parentheses and brackets open within one another: as many as may be, and one more.
func TestOpen(t *testing.T) {
	readsExpr(t, nested(30, "(", "a", ")"), field("a"))
	barredExpr(t, nested(31, "(", "a", ")"), 30)
	barredExpr(t, strings.Repeat("(", 31), 30)
	barredExpr(t, strings.Repeat("(", 30), 30)
	barredExpr(t, strings.Repeat("( ", 100), 60)
	barredExpr(t, nested(31, "[", "", "]"), 30)
	barredExpr(t, nested(31, "size(", "a", ")"), 30*5+4)
	barredExpr(t, nested(31, "has(", "a", ",b)"), 30*4+3)
	barredExpr(t, nested(30, "(", "-a", ")"), 30)
	barredExpr(t, nested(30, "(", "!a", ")"), 30)
	barredExpr(t, nested(30, "(", "size(a)", ")"), 34)
	barredExpr(t, nested(30, "(", "[]", ")"), 30)
	barredExpr(t, nested(31, "-", "1", ""), 30)
	barredExpr(t, nested(31, "!", "1", ""), 30)
	barredExpr(t, nested(15, "- ! ", "-1", ""), 60)
	barredExpr(t, nested(10, "-([", "(1)", "])"), 30)
	if _, at, err := parse.Expr(nested(10, "-([", "1", "])")); at != 0 || err != api.OK {
		t.Errorf("as much open as may be: %d at %d", err, at)
	}
}

// P5.2: what has ended is open no more: a sign ends with its operand.
func TestOpenEnds(t *testing.T) {
	for _, s := range []string{
		nested(29, "(a) + ", "a", ""), nested(28, "-a + ", "-a", ""), nested(28, "-(a) + ", "-[a]", ""), nested(27, "-a.b - ", "!b", ""),
		"[" + nested(500, "-1, ", nested(29, "(", "1", ")"), "") + "]", "[" + nested(100, "[], (a), size(b), -!1, ", nested(28, "[", "", "]"), "") + "]",
		nested(29, "(", "- a - - a", ")"), nested(29, "(", "!a && !a || [a] == [a]", ")"), "- a + " + nested(30, "(", "a", ")"), nested(30, "(", "a", ")") + " - -a",
	} {
		if _, at, err := parse.Expr(s); at != 0 || err != api.OK {
			t.Errorf("%.100s: %d at %d", s, err, at)
		}
	}
	barredExpr(t, "-"+nested(30, "(", "a", ")"), 30)
	barredExpr(t, "-a + "+nested(31, "(", "a", ")"), 35)
	barredExpr(t, "[-1, "+nested(30, "(", "a", ")")+"]", 34)
	barredExpr(t, nested(30, "(", "a", ")")+" + "+nested(31, "(", "a", ")"), 61+3+30)
}

// P5.1: so in files: parentheses of conditions, braces of actions, too; salience's - opens nothing.
func TestOpenInFiles(t *testing.T) {
	parens := func(n int) string { return nested(n, "(", "a", ")") }
	for s, n := range map[string]int{
		when("P(%s)"): 1, when("$p : P($x : x, %s)"): 1, when("eval(%s)"): 1, when("$x from %s"): 0, when("not (P(%s))"): 2, when("not (exists (P(%s)))"): 3, when("forall (P(%s); Q())"): 2, when("forall (P(); Q(%s))"): 2, when("(P() or P(%s))"): 2, when("(P(%s) or P())"): 2, when("? q(%s)"): 1, when("? q($x ?, %s)"): 1, when("acc($s : sum(%s) over P())"): 2, when("acc($s : sum(1) over P(%s))"): 2, when("not (not (P()) $x from -%s)"): 2,
		then("print %s;"): 0, then("delete %s;"): 0, then("insert P { x = %s };"): 1, then("logical P { x = (1), y = %s };"): 1, then("update %s { x = 1 };"): 0, then("update (a) { x = %s };"): 1, `rule "r" salience -5 when then print %s; end`: 0, `class A { x : int } rule "r" when P() then print - 1; print %s; end`: 0,
	} {
		if _, at, err := parse.Parse(fmt.Sprintf(s, parens(30-n))); at != 0 || err != api.OK {
			t.Errorf("%s: %d at %d", s, err, at)
		}
		barred(t, fmt.Sprintf(s, parens(31-n)), strings.Index(s, "%s")+30-n)
	}
	for s, tail := range map[string]string{"not (": ")", "exists (": ")", "(P() or ": ")", "forall (P(); ": ")", "acc($s : sum(1) over ": ")"} {
		full := when(nested(29, s, "P()", tail))
		if _, at, err := parse.Parse(full); at != 0 || err != api.OK {
			t.Errorf("%.80s: %d at %d", full, err, at)
		}
		for _, n := range []int{30, 40} {
			over := when(nested(n, s, "P()", tail))
			barred(t, over, firstTooMany(over))
		}
	}
	readsConds(t, nested(30, "not (", "$x from 1", ")"), nots(30, api.Cond{Kind: api.CFrom, Var: "x", E: num(1)}))
}

// firstTooMany tells the parenthesis with which more are open than may be.
func firstTooMany(s string) int {
	open := 0
	for i, c := range s {
		switch c {
		case '(':
			if open++; open > api.MaxDeep {
				return i
			}
		case ')':
			open--
		}
	}
	return -1
}

func nots(n int, c api.Cond) api.Cond {
	for range n {
		c = api.Cond{Kind: api.CNot, Conds: conds(c)}
	}
	return c
}

// P5.2: expressions as deep as may be, and one deeper: at the operator or the `.`, or where a list, a size, a has begins.
func TestDeep(t *testing.T) {
	may := func(s string) {
		t.Helper()
		if _, at, err := parse.Expr(s); at != 0 || err != api.OK {
			t.Errorf("%.200s: %d at %d", s, err, at)
		}
	}
	dots := func(n int) string { return "a" + nested(n, ".b", "", "") }
	for _, mark := range []string{"||", "&&", "+", "-", "*", "/", "%"} {
		chain := func(n int) string { return nested(n, "a"+mark, "a", "") }
		may(chain(29))
		barredExpr(t, chain(30), 30+29*len(mark))
		barredExpr(t, chain(1000), 30+29*len(mark))
		may("a" + mark + "(" + chain(28) + ")")
		barredExpr(t, "a"+mark+"("+chain(29)+")", 1)
		barredExpr(t, "(a)"+mark+dots(29), 3)
	}
	for _, mark := range []string{"==", "!=", "<", "<=", ">", ">="} {
		may(dots(28) + mark + "a")
		may("a" + mark + dots(28))
		barredExpr(t, dots(29)+mark+"a", 59)
		barredExpr(t, "a"+mark+dots(29), 1)
	}
	may(dots(29))
	barredExpr(t, dots(30), 59)
	barredExpr(t, dots(300), 59)
	for _, mark := range []string{"-", "!"} {
		may(nested(29, mark, "a", ""))
		barredExpr(t, nested(30, mark, "a", ""), 0)
		barredExpr(t, nested(30, mark, "a.b", ""), 1)
		barredExpr(t, nested(30, mark, "a", "")+" ) ", 0)
		barredExpr(t, "b + "+mark+dots(29), 4)
	}
	may(nested(30, "[", "", "]"))
	may(nested(29, "[", "1", "]"))
	barredExpr(t, nested(30, "[", "1", "]"), 0)
	barredExpr(t, nested(30, "[", "a.b", "]"), 1)
	barredExpr(t, "[1, 2, "+dots(29)+", 3]", 0)
	barredExpr(t, "a + [1, "+dots(29)+"]", 4)
	may("size(" + dots(28) + ")")
	barredExpr(t, "1 + size("+dots(29)+")", 4)
	may(nested(29, "size(", "a", ")"))
	barredExpr(t, nested(30, "size(", "a", ")"), 0)
	may("has(" + dots(28) + ", " + dots(28) + ")")
	barredExpr(t, "1 + has("+dots(29)+", a)", 4)
	barredExpr(t, "1 + has(a, "+dots(29)+")", 4)
	barredExpr(t, "("+nested(29, "-", "a", "")+").b", 32)
	barredExpr(t, nested(30, "[", "", "]")+".b", 60)
	may(nested(30, "(", dots(29), ")"))
	barredExpr(t, nested(30, "(", dots(30), ")"), 89)
}

// P5.1: each expression of a file is as deep as may be of itself.
func TestDeepInFiles(t *testing.T) {
	dots := func(n int) string { return "a" + strings.Repeat(".b", n) }
	for _, s := range []string{
		when("P(%s)"), when("P($x : x, %s)"), when("eval(%s)"), when("$x from %s"), when("? q($x ?, %s)"), when("acc($s : sum(%s) over P())"), when("not (P(%s))"),
		then("print %s;"), then("delete %s;"), then("insert P { x = %s };"), then("update %s { x = 1 };"), then("update 1 { x = 1, y = %s };"),
	} {
		if _, at, err := parse.Parse(fmt.Sprintf(s, dots(29))); at != 0 || err != api.OK {
			t.Errorf("%s: %d at %d", s, err, at)
		}
		barred(t, fmt.Sprintf(s, dots(30)), strings.Index(s, "%s")+59)
	}
}

// P5.1, P5.2: lex's errors go ahead of all others, wherever they stand.
func TestLexFirst(t *testing.T) {
	for _, s := range []string{"x ^#", "^#", `class { } ^"`, `^"a`, "rule rule ^|", when("P(,) ^@"), "9999999999999999999999 ^$", strings.Repeat("(", 50) + "^\x00", "// a\n^\\"} {
		barredHere(t, s)
		barredExprHere(t, s)
	}
	for _, s := range []string{strings.Repeat(" ", api.MaxText+1), strings.Repeat("#", api.MaxText+1), strings.Repeat("a", 1<<20)} {
		if got := file(s); got != answer(api.Base{}, 0, api.ErrLong) {
			t.Errorf("a long file: %.200s", got)
		}
		if got := expr(s); got != answer(api.Expr{}, 0, api.ErrLong) {
			t.Errorf("a long expression: %.200s", got)
		}
	}
	reads(t, strings.Repeat(" ", api.MaxText), api.Base{})
	readsExpr(t, strings.Repeat(" ", api.MaxText-1)+"a", field("a"))
}

// P5.1, P5.2: as many lexemes as may be, and one more.
func TestMany(t *testing.T) {
	halts := func(n int) string { return then(strings.Repeat("halt;", n)) }
	b, at, err := parse.Parse(halts(2045))
	if err != api.OK || at != 0 || len(b.Rules[0].Then) != 2045 {
		t.Errorf("4095 lexemes: %d at %d", err, at)
	}
	barred(t, halts(2046), 19+5*2046+1)
	items := func(n int) string { return "[" + strings.Repeat("a,", n) + "a]" }
	e, at, err := parse.Expr(items(2046) + ".")
	if err != api.ErrSyntax || at != 4096 || len(e.Args) != 0 {
		t.Errorf("4096 lexemes, too early an end: %d at %d", err, at)
	}
	barredExpr(t, items(2046)+".b", 4096)
	e, at, err = parse.Expr("-" + items(2046))
	if err != api.OK || at != 0 || len(e.Args[0].Args) != 2047 {
		t.Errorf("4096 lexemes: %d at %d, %d", err, at, len(e.Args))
	}
	barredExpr(t, "-!"+items(2046), 4096)
	barredExpr(t, ") -"+items(2046)+" a", 4097)
}
