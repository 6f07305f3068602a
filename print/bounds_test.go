package print_test

import (
	"fmt"
	"strings"
	"testing"

	"proctor/api"
	"proctor/lex"
	"proctor/print"
)

// counts asks how many lexemes a text has.
func counts(t *testing.T, s string, err api.Errno, want int) {
	t.Helper()
	if l, _, bad := lex.Lex(s); err != api.OK || bad != api.OK || len(l) != want {
		t.Errorf("%d, %d: %d lexemes instead of %d", err, bad, len(l), want)
	}
}

// items is a list of n items: of 2n + 1 lexemes.
func items(n int) api.Expr {
	l := make([]api.Expr, n)
	for i := range l {
		l[i] = field("a")
	}
	return list(l...)
}

// P6.1: as many lexemes as may be in a file, and one more, whatever they are of.
func TestLexemes(t *testing.T) {
	for name, base := range map[string]func(n int) api.Base{
		"actions": func(n int) api.Base { // 5 + 2 * actions
			l := make([]api.Action, (n-5)/2)
			for i := range l {
				l[i] = halt()
			}
			return api.Base{Rules: []api.Rule{{Then: l, Lock: n%2 == 0}}}
		},
		"conditions": func(n int) api.Base { // 5 + 3 * conditions
			l := make([]api.Cond, (n-5)/3)
			for i := range l {
				l[i] = p()
			}
			return api.Base{Rules: []api.Rule{{When: l, Lock: (n-5)%3 > 0, NoLoop: (n-5)%3 == 2}}}
		},
		"fields": func(n int) api.Base { // 4 + 3 * fields; ref: one more
			l := make([]api.Field, (n-4)/3)
			for i := range l {
				l[i] = api.Field{Name: "x", Type: api.TInt}
			}
			for i := range (n - 4) % 3 {
				l[i] = api.Field{Name: "x", Type: api.TRef, Class: "P"}
			}
			return api.Base{Classes: []api.Class{{Name: "P", Fields: l}}}
		},
		"params": func(n int) api.Base { // 4 + 2 * params; a condition: three more
			q := api.Query{Name: "q", Params: make([]string, (n-4-3*(n%2))/2)}
			if n%2 == 1 {
				q.When = conds(p())
			}
			for i := range q.Params {
				q.Params[i] = "a"
			}
			return api.Base{Queries: []api.Query{q}}
		},
		"queries": func(n int) api.Base { // 5 each; a class 4
			b := api.Base{Classes: make([]api.Class, 4-(n-1)%5)}
			for i := range b.Classes {
				b.Classes[i].Name = "P"
			}
			for range (n - 4*len(b.Classes)) / 5 {
				b.Queries = append(b.Queries, api.Query{Name: "q"})
			}
			return b
		},
		"rules": func(n int) api.Base { // 5 each; lock: one more
			b := api.Base{Rules: make([]api.Rule, n/5)}
			for i := range b.Rules[:n%5] {
				b.Rules[i].Lock = true
			}
			return b
		},
	} {
		for _, n := range []int{4094, 4095, 4096} {
			s, err := print.Print(base(n))
			counts(t, s, err, n)
			fine(t, name, base(n))
		}
		for _, n := range []int{4097, 4098, 4099, 5000, 100000} {
			bars(t, fmt.Sprint(n, " ", name), base(n))
		}
	}
}

// P6.2: so in expressions.
func TestLexemesOfExpr(t *testing.T) {
	s, err := print.Expr(op(api.ENeg, items(2047)))
	counts(t, s, err, 4096)
	fineExpr(t, "4096 lexemes", op(api.ENeg, items(2047)))
	for i, e := range []api.Expr{items(2048), op(api.ENot, op(api.ENeg, items(2047))), get(items(2047), "b"), op(api.ESize, items(2047)), op(api.EHas, items(1024), items(1024)), op(api.EAdd, items(2047), num(1)), items(3000), items(1 << 20)} {
		barsExpr(t, fmt.Sprint("too many lexemes ", i), e)
	}
	fineExpr(t, "4095 lexemes", op(api.EAdd, items(1023), items(1023)))
	fineExpr(t, "4096 lexemes", op(api.EMul, op(api.ENeg, items(1023)), items(1023)))
	barsExpr(t, "4097 lexemes", op(api.EMul, op(api.ENeg, items(1023)), op(api.ENeg, items(1023))))
}

// P6.2: and in conditions, with the rule around them.
func TestLexemesOfCond(t *testing.T) {
	s, err := print.Cond(from(items(2044)))
	counts(t, s, err, api.MaxLex-5)
	fineCond(t, "4091 lexemes", from(items(2044)))
	barsCond(t, "4092 lexemes", from(op(api.ENeg, items(2044))))
	barsCond(t, "4092 lexemes", api.Cond{Kind: api.CEval, E: items(2044)})
	barsCond(t, "4093 lexemes", from(items(2045)))
	barsCond(t, "4096 lexemes", from(op(api.ENeg, items(2046))))
	fineCond(t, "4090 lexemes", api.Cond{Kind: api.CEval, E: items(2043)})
	var l []api.Cond
	for range 1362 {
		l = append(l, p())
	}
	fineCond(t, "4089 lexemes", not(l...))
	barsCond(t, "4092 lexemes", not(append(l, p())...))
	fine(t, "the condition's 4091 lexemes in a rule", baseOf(from(items(2044))))
	bars(t, "a condition's 4092 lexemes in a rule", baseOf(from(op(api.ENeg, items(2044)))))
}

func lists(n int) api.Expr {
	e := list()
	for range n - 1 {
		e = list(e)
	}
	return e
}

func signs(n int, kind int, e api.Expr) api.Expr {
	for range n {
		e = op(kind, e)
	}
	return e
}

// P6.1, P6.2: as much open within one another as may be, and one more: conditions.
func TestOpenConds(t *testing.T) {
	one := from(num(1))
	for name, around := range map[string]func(c api.Cond) api.Cond{
		"not":         func(c api.Cond) api.Cond { return not(one, c) },
		"exists":      func(c api.Cond) api.Cond { return api.Cond{Kind: api.CExists, Conds: conds(c, one)} },
		"forall":      func(c api.Cond) api.Cond { return api.Cond{Kind: api.CForall, Conds: conds(c), Then: conds(one)} },
		"forall then": func(c api.Cond) api.Cond { return api.Cond{Kind: api.CForall, Conds: conds(one), Then: conds(c)} },
		"or":          func(c api.Cond) api.Cond { return api.Cond{Kind: api.COr, Alts: [][]api.Cond{{one}, {one, c}}} },
		"acc": func(c api.Cond) api.Cond {
			return api.Cond{Kind: api.CAcc, Var: "s", Fn: "sum", E: num(1), Conds: conds(c)}
		},
	} {
		nested := func(n int, c api.Cond) api.Cond {
			for range n {
				c = around(c)
			}
			return c
		}
		for what, c := range map[string]api.Cond{"a pattern": p(), "an eval": {Kind: api.CEval, E: num(1)}, "a query": {Kind: api.CQuery, Name: "q"}} {
			fineCond(t, name+" around "+what, nested(29, c))
			fine(t, name+" around "+what, baseOf(nested(29, c)))
			barsCond(t, name+" around "+what, nested(30, c))
			bars(t, name+" around "+what, baseOf(nested(30, c)))
			bars(t, name+" around "+what, api.Base{Queries: []api.Query{{Name: "q", When: conds(nested(30, c))}}})
			barsCond(t, name+" around "+what, nested(1000, c))
		}
		if name == "acc" { // the parentheses of its own expression
			barsCond(t, name+" around a from", nested(30, one))
			continue
		}
		fineCond(t, name+" around a from", nested(30, one))
		barsCond(t, name+" around a from", nested(31, one))
	}
}

// P6.1, P6.2: what is open in an expression counts with what is open around it, and no more when it has ended.
func TestOpenExprs(t *testing.T) {
	cond := func(c api.Cond) api.Base { return baseOf(p(), c, from(lists(30))) }
	action := func(a api.Action) api.Base { return baseThen(halt(), a, show(lists(30))) }
	set := func(e api.Expr) []api.Assign { return []api.Assign{{Field: "x", E: num(1)}, {Field: "y", E: e}} }
	for name, at := range map[string]struct {
		open int
		base func(e api.Expr) api.Base
	}{
		"pattern": {1, func(e api.Expr) api.Base { return cond(pattern("P", num(1), e)) }},
		"from":    {0, func(e api.Expr) api.Base { return cond(from(e)) }},
		"eval":    {1, func(e api.Expr) api.Base { return cond(api.Cond{Kind: api.CEval, E: e}) }},
		"acc": {2, func(e api.Expr) api.Base {
			return cond(api.Cond{Kind: api.CAcc, Var: "s", Fn: "sum", E: e, Conds: conds(p())})
		}},
		"acc's": {1, func(e api.Expr) api.Base {
			return cond(api.Cond{Kind: api.CAcc, Var: "s", Fn: "sum", E: num(1), Conds: conds(from(e))})
		}},
		"question": {1, func(e api.Expr) api.Base {
			return cond(api.Cond{Kind: api.CQuery, Name: "q", Args: []api.Arg{{Var: "x"}, {E: e}}})
		}},
		"nots":      {3, func(e api.Expr) api.Base { return cond(not(not(pattern("P", e)))) }},
		"insert":    {1, func(e api.Expr) api.Base { return action(api.Action{Kind: api.AInsert, Class: "P", Set: set(e)}) }},
		"logical":   {1, func(e api.Expr) api.Base { return action(api.Action{Kind: api.ALogical, Class: "P", Set: set(e)}) }},
		"update":    {0, func(e api.Expr) api.Base { return action(api.Action{Kind: api.AUpdate, E: e, Set: set(num(1))}) }},
		"update to": {1, func(e api.Expr) api.Base { return action(api.Action{Kind: api.AUpdate, E: num(1), Set: set(e)}) }},
		"delete":    {0, func(e api.Expr) api.Base { return action(api.Action{Kind: api.ADelete, E: e}) }},
		"print":     {0, func(e api.Expr) api.Base { return action(show(e)) }},
	} {
		most := 30 - at.open
		for i, e := range []api.Expr{lists(most), signs(most-1, api.ENeg, lists(1)), signs(most-1, api.ENot, lists(1)), op(api.ESize, lists(most-1)), op(api.EHas, num(1), lists(most-1)), get(signs(most-2, api.ENeg, num(1)), "f"), signs(most-3, api.ENeg, op(api.EAdd, num(1), lists(1)))} {
			fine(t, fmt.Sprint(name, i), at.base(e))
		}
		if at.open == 0 { // too deep in any case
			continue
		}
		for i, e := range []api.Expr{lists(most + 1), signs(most, api.ENeg, lists(1)), signs(most, api.ENot, lists(1)), op(api.ESize, lists(most)), op(api.EHas, num(1), lists(most)), get(signs(most, api.ENeg, num(1)), "f")} {
			bars(t, fmt.Sprint(name, i), at.base(e))
		}
	}
	fine(t, "salience's -", api.Base{Rules: []api.Rule{{Salience: -1, When: conds(from(lists(30)))}}})
	fine(t, "a class ahead", api.Base{Classes: []api.Class{{Name: "P"}}, Rules: []api.Rule{{When: conds(from(lists(30)))}}})
	fineExpr(t, "signs that have ended", op(api.EAdd, op(api.ENeg, num(1)), lists(29)))
	fineCond(t, "signs that have ended", pattern("P", op(api.EAdd, op(api.ENeg, num(1)), signs(28, api.ENot, num(1))), lists(29)))
}

// P6.2: expressions as deep as may be, and one deeper.
func TestDeep(t *testing.T) {
	gets := func(n int) api.Expr {
		e := field("a")
		for range n {
			e = get(e, "b")
		}
		return e
	}
	fineExpr(t, "gets", gets(29))
	barsExpr(t, "gets", gets(30))
	barsExpr(t, "gets", gets(100))
	fineExpr(t, "lists", lists(30))
	barsExpr(t, "lists", lists(31))
	for i := range 23 {
		for side := range 2 {
			inner := func(n int) api.Expr {
				switch {
				case i < api.EList:
					return get(gets(n), "b")
				case i == api.EList:
					return list([]api.Expr{field("a"), field("a"), gets(n)}[side:]...)
				case i == api.ENeg || i == api.ENot || i == api.ESize:
					return op(i, gets(n))
				}
				l := []api.Expr{field("a"), field("a")}
				l[side] = gets(n)
				return op(i, l...)
			}
			fineExpr(t, fmt.Sprint("deep of ", i), inner(28))
			barsExpr(t, fmt.Sprint("deep of ", i), inner(29))
			fineCond(t, fmt.Sprint("deep of ", i), pattern("P", inner(28), inner(28)))
			barsCond(t, fmt.Sprint("deep of ", i), pattern("P", inner(28), inner(29)))
			fine(t, fmt.Sprint("deep of ", i), baseThen(show(inner(28)), show(inner(28))))
			bars(t, fmt.Sprint("deep of ", i), baseThen(show(inner(28)), show(inner(29))))
		}
	}
	chain := func(n int) api.Expr {
		e := field("a")
		for range n {
			e = op(api.EAdd, e, field("a"))
		}
		return e
	}
	fineExpr(t, "a chain", chain(29))
	barsExpr(t, "a chain", chain(30))
}

// P6.1: the ends of salience.
func TestSalience(t *testing.T) {
	for _, n := range []int{1, -1, 1<<31 - 1, 1 << 31, -1<<31 + 1, -1 << 31} {
		fine(t, n, api.Base{Rules: []api.Rule{{Salience: n}}})
	}
	for _, n := range []int{1<<31 + 1, -1<<31 - 1, 1 << 32, -1 << 32, 1<<63 - 1, -1 << 63, -1<<63 + 1} {
		bars(t, n, api.Base{Rules: []api.Rule{{Salience: n}}})
	}
}

// P6.2: numbers below 0 are written by no literal.
func TestNumbers(t *testing.T) {
	for _, n := range []int64{0, 1, 1 << 31, 1<<63 - 1} {
		fineExpr(t, n, num(n))
		fineExpr(t, n, op(api.ENeg, num(n)))
	}
	for _, n := range []int64{-1, -1 << 31, -1 << 63, -1<<63 + 1} {
		barsExpr(t, n, num(n))
		barsExpr(t, n, op(api.ENeg, num(n)))
	}
}

// longer makes a base's one text so long that the base's own has n bytes.
func longer(t *testing.T, n int, base func(s string) api.Base) api.Base {
	t.Helper()
	s, err := print.Print(base(""))
	if err != api.OK {
		t.Errorf("the short one: %d", err)
	}
	return base(strings.Repeat("x", n-len(s)))
}

// P6.1: the longest text, and one byte more, whatever it is that is long.
func TestLong(t *testing.T) {
	for name, base := range map[string]func(s string) api.Base{
		"name":    func(s string) api.Base { return api.Base{Rules: []api.Rule{{Name: s}}} },
		"group":   func(s string) api.Base { return api.Base{Rules: []api.Rule{{Group: "g" + s, Lock: true}}} },
		"flow":    func(s string) api.Base { return api.Base{Rules: []api.Rule{{Flow: "f" + s, Name: "a"}}} },
		"focus":   func(s string) api.Base { return baseThen(api.Action{Kind: api.AFocus, Text: s}) },
		"literal": func(s string) api.Base { return baseOf(from(str(s))) },
		"two":     func(s string) api.Base { return baseOf(from(list(str(s[:len(s)/2]), str(s[len(s)/2:])))) },
	} {
		b := longer(t, api.MaxText, base)
		if s, err := print.Print(b); len(s) != api.MaxText || err != api.OK {
			t.Errorf("%s: %d bytes, %d", name, len(s), err)
		}
		fine(t, name, b)
		for _, n := range []int{1, 2, 3, 100, 1 << 16, 1 << 20} {
			answers(t, name, longer(t, api.MaxText+n, base), api.ErrLong)
		}
	}
}

// P6.1: so if its names are what makes it long: each byte of the end may be the one too many.
func TestLongNames(t *testing.T) {
	const frame = len("class P { } ")
	base := func(n int) api.Base { // n bytes, as names of at most 64
		b := api.Base{}
		for left := n + 1; left > 0; {
			k := min(left, frame+63)
			if left-k > 0 && left-k < frame {
				k = left - frame
			}
			b.Classes = append(b.Classes, api.Class{Name: "P" + strings.Repeat("_", k-frame)})
			left -= k
		}
		return b
	}
	for n := api.MaxText - 20; n <= api.MaxText; n++ {
		if s, err := print.Print(base(n)); len(s) != n || err != api.OK {
			t.Errorf("%d: %d bytes, %d", n, len(s), err)
		}
		fine(t, n, base(n))
	}
	for n := api.MaxText + 1; n <= api.MaxText+80; n++ {
		answers(t, n, base(n), api.ErrLong)
	}
}

// P6.2: so expressions and conditions, of which the rule around is no part.
func TestLongParts(t *testing.T) {
	whole := func(s string) string { return `"` + s + `"` }
	for _, c := range []string{"x", `"`, `\`, "\n", "\t", "\xff"} {
		quoted := len(lex.Quote(c)) - 2
		n := (api.MaxText - 2) / quoted
		s := strings.Repeat(c, n)
		fineExpr(t, "the longest", str(s))
		answersExpr(t, "one more", str(s+c), api.ErrLong)
		if got, err := print.Expr(str(s)); len(got) != n*quoted+2 || err != api.OK {
			t.Errorf("%q: %d bytes, %d", c, len(got), err)
		}
	}
	fineExpr(t, "the longest", list(str(strings.Repeat("x", api.MaxText-6))))
	answersExpr(t, "one more", list(str(strings.Repeat("x", api.MaxText-5))), api.ErrLong)
	answersExpr(t, "far too long", str(strings.Repeat("\n", 1<<26)), api.ErrLong)
	for n := range 3 {
		s := strings.Repeat("x", api.MaxText-n-len(`$x from ""`))
		if got, err := print.Cond(from(str(s))); got != "$x from "+whole(s) || err != api.OK {
			t.Errorf("a condition of %d bytes: %d", api.MaxText-n, err)
		}
		answersCond(t, n, from(str(strings.Repeat("x", n+1)+strings.Repeat("x", api.MaxText-len(`$x from ""`)))), api.ErrLong)
	}
}

// P6.1, P6.2: what may not be written goes ahead of what is too long, wherever it stands.
func TestBarredAndLong(t *testing.T) {
	long := strings.Repeat("x", 1<<17)
	barsExpr(t, "a byte at the end", str(long+"\x01"))
	barsExpr(t, "behind it", list(str(long), api.Expr{}))
	barsExpr(t, "ahead of it", list(api.Expr{}, str(long)))
	barsExpr(t, "too many lexemes", list(str(long), items(2050)))
	barsExpr(t, "too deep", list(str(long), lists(30)))
	barsCond(t, "behind it", not(from(str(long)), api.Cond{}))
	barsCond(t, "a name behind it", not(from(str(long)), pattern("end")))
	bars(t, "behind it", api.Base{Rules: []api.Rule{{Name: long}, {Salience: 1<<31 + 1}}})
	bars(t, "a query behind it", api.Base{Rules: []api.Rule{{Name: long}}, Queries: []api.Query{{Name: "q", Params: []string{""}}}})
	bars(t, "an action behind it", baseThen(api.Action{Kind: api.AFocus, Text: long}, api.Action{}))
	answers(t, "all else is fine", api.Base{Rules: []api.Rule{{Name: long}, {Salience: 1 << 31}}}, api.ErrLong)
}
