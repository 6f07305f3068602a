package print_test

import (
	"reflect"
	"strings"
	"testing"

	"proctor/api"
	"proctor/lex"
	"proctor/parse"
	"proctor/print"
)

// alike tells whether two things are the same; nil and empty lists are one.
func alike(a, b any) bool { return alikeValues(reflect.ValueOf(a), reflect.ValueOf(b)) }

func alikeValues(a, b reflect.Value) bool {
	switch a.Kind() {
	case reflect.Struct:
		for i := range a.NumField() {
			if !alikeValues(a.Field(i), b.Field(i)) {
				return false
			}
		}
		return true
	case reflect.Slice:
		if a.Len() != b.Len() {
			return false
		}
		for i := range a.Len() {
			if !alikeValues(a.Index(i), b.Index(i)) {
				return false
			}
		}
		return true
	}
	return a.Equal(b)
}

func readsAs(s string, b api.Base) bool {
	got, _, err := parse.Parse(s)
	return err == api.OK && alike(got, b)
}

func readsAsExpr(s string, e api.Expr) bool {
	got, _, err := parse.Expr(s)
	return err == api.OK && alike(got, e)
}

func when(conds string) string { return `rule "r" when ` + conds + ` then end` }

func then(actions string) string { return `rule "r" when then ` + actions + ` end` }

func baseOf(l ...api.Cond) api.Base { return api.Base{Rules: []api.Rule{{Name: "r", When: l}}} }

func readsAsCond(s string, c api.Cond) bool { return readsAs(when(s), baseOf(c)) }

// laid asks that s is lexemes with one blank between each two, and nothing else.
func laid(t *testing.T, s string) {
	t.Helper()
	l, _, err := lex.Lex(s)
	if err != api.OK {
		t.Errorf("%.200q: %d", s, err)
	}
	at := 0
	for i, x := range l {
		if i > 0 {
			if !strings.HasPrefix(s[at:], " ") {
				t.Errorf("%.200q: no blank at %d", s, at)
			}
			at++
		}
		if x.At != at {
			t.Errorf("%.200q: more than a blank at %d", s, at)
		}
		at = x.End
	}
	if at != len(s) {
		t.Errorf("%.200q: something stands behind the last lexeme", s)
	}
}

// bare asks that nothing in s is needless: without any one lexeme, and without any one pair of parentheses, it is not read as the same.
func bare(t *testing.T, s string, same func(string) bool) {
	t.Helper()
	l, _, _ := lex.Lex(s)
	without := func(gone ...int) string {
		out, at := "", 0
		for _, i := range gone {
			out += s[at:l[i].At]
			at = l[i].End
		}
		return out + s[at:]
	}
	var open []int
	for i, x := range l {
		if same(without(i)) {
			t.Errorf("%q: the %q at %d is needless", s, x.Text, x.At)
		}
		switch {
		case x.Kind != lex.Mark:
		case x.Text == "(":
			open = append(open, i)
		case x.Text == ")":
			from := open[len(open)-1]
			open = open[:len(open)-1]
			if same(without(from, i)) {
				t.Errorf("%q: the parentheses at %d and %d are needless", s, l[from].At, x.At)
			}
		}
	}
}

// writes asks P6.1 and P6.3 of a base: its text is want, which is read as the base.
func writes(t *testing.T, b api.Base, want string) {
	t.Helper()
	got, err := print.Print(b)
	if got != want || err != api.OK {
		t.Errorf("Print: %.300q, %d instead of %.300q", got, err, want)
	}
	laid(t, want)
	if !readsAs(want, b) {
		t.Errorf("%.300q is not read as the base", want)
	}
	if len(want) < 1000 {
		bare(t, want, func(s string) bool { return readsAs(s, b) })
	}
}

func writesExpr(t *testing.T, e api.Expr, want string) {
	t.Helper()
	got, err := print.Expr(e)
	if got != want || err != api.OK {
		t.Errorf("Expr: %.300q, %d instead of %.300q", got, err, want)
	}
	laid(t, want)
	if !readsAsExpr(want, e) {
		t.Errorf("%.300q is not read as the expression", want)
	}
	if len(want) < 1000 {
		bare(t, want, func(s string) bool { return readsAsExpr(s, e) })
	}
}

// writesCond asks P6.2 of a condition, and P6.1 where it stands in a rule, in a query, within others.
func writesCond(t *testing.T, c api.Cond, want string) {
	t.Helper()
	got, err := print.Cond(c)
	if got != want || err != api.OK {
		t.Errorf("Cond: %.300q, %d instead of %.300q", got, err, want)
	}
	writes(t, baseOf(c), when(want))
	writes(t, baseOf(c, p(), c), when(want+" P ( ) "+want))
	writes(t, baseOf(not(c)), when("not ( "+want+" )"))
	writes(t, api.Base{Queries: []api.Query{{Name: "q", When: conds(c)}}}, "query q ( ) "+want+" end")
}

func writesAction(t *testing.T, a api.Action, want string) {
	t.Helper()
	writes(t, baseThen(a), then(want))
	writes(t, baseThen(a, halt(), a), then(want+" halt ; "+want))
}

// rewrites asks that a file's text, however it is written, has the canonical text want, which has itself.
func rewrites(t *testing.T, s, want string) {
	t.Helper()
	b, _, err := parse.Parse(s)
	if err != api.OK {
		t.Errorf("%.300q: %d", s, err)
	}
	writes(t, b, want)
}

func rewritesExpr(t *testing.T, s, want string) {
	t.Helper()
	e, _, err := parse.Expr(s)
	if err != api.OK {
		t.Errorf("%.300q: %d", s, err)
	}
	writesExpr(t, e, want)
}

func bars(t *testing.T, what any, b api.Base) { t.Helper(); answers(t, what, b, api.ErrArg) }

func barsExpr(t *testing.T, what any, e api.Expr) { t.Helper(); answersExpr(t, what, e, api.ErrArg) }

func barsCond(t *testing.T, what any, c api.Cond) { t.Helper(); answersCond(t, what, c, api.ErrArg) }

// answers asks for an error, and no text beside it.
func answers(t *testing.T, what any, b api.Base, want api.Errno) {
	t.Helper()
	if s, err := print.Print(b); s != "" || err != want {
		t.Errorf("Print, %v: %.200q, %d instead of %d", what, s, err, want)
	}
}

func answersExpr(t *testing.T, what any, e api.Expr, want api.Errno) {
	t.Helper()
	if s, err := print.Expr(e); s != "" || err != want {
		t.Errorf("Expr, %v: %.200q, %d instead of %d", what, s, err, want)
	}
}

func answersCond(t *testing.T, what any, c api.Cond, want api.Errno) {
	t.Helper()
	if s, err := print.Cond(c); s != "" || err != want {
		t.Errorf("Cond, %v: %.200q, %d instead of %d", what, s, err, want)
	}
}

// fine asks that a thing may be written, and that its text is read as it.
func fine(t *testing.T, what any, b api.Base) {
	t.Helper()
	s, err := print.Print(b)
	if err != api.OK || !readsAs(s, b) {
		t.Errorf("Print, %v: %.200q, %d", what, s, err)
	}
}

func fineExpr(t *testing.T, what any, e api.Expr) {
	t.Helper()
	s, err := print.Expr(e)
	if err != api.OK || !readsAsExpr(s, e) {
		t.Errorf("Expr, %v: %.200q, %d", what, s, err)
	}
}

func fineCond(t *testing.T, what any, c api.Cond) {
	t.Helper()
	s, err := print.Cond(c)
	if err != api.OK || !readsAsCond(s, c) {
		t.Errorf("Cond, %v: %.200q, %d", what, s, err)
	}
}

// Parts of bases.

func lit(v api.Value) api.Expr    { return api.Expr{Op: api.ELit, V: v} }
func num(n int64) api.Expr        { return lit(api.Value{Kind: api.VInt, Int: n}) }
func str(s string) api.Expr       { return lit(api.Value{Kind: api.VText, Text: s}) }
func truth(b bool) api.Expr       { return lit(api.Value{Kind: api.VBool, Bool: b}) }
func variable(s string) api.Expr  { return api.Expr{Op: api.EVar, Text: s} }
func field(s string) api.Expr     { return api.Expr{Op: api.EField, Text: s} }
func list(l ...api.Expr) api.Expr { return api.Expr{Op: api.EList, Args: l} }

func get(e api.Expr, s string) api.Expr {
	return api.Expr{Op: api.EGet, Text: s, Args: []api.Expr{e}}
}

func op(op int, args ...api.Expr) api.Expr { return api.Expr{Op: op, Args: args} }

// p is the pattern `P ( )`.
func p() api.Cond { return api.Cond{Kind: api.CFact, Class: "P"} }

func pattern(class string, tests ...api.Expr) api.Cond {
	return api.Cond{Kind: api.CFact, Class: class, Tests: tests}
}

func conds(l ...api.Cond) []api.Cond { return l }

func not(l ...api.Cond) api.Cond { return api.Cond{Kind: api.CNot, Conds: l} }

func from(e api.Expr) api.Cond { return api.Cond{Kind: api.CFrom, Var: "x", E: e} }

func halt() api.Action { return api.Action{Kind: api.AHalt} }

func show(e api.Expr) api.Action { return api.Action{Kind: api.APrint, E: e} }

func baseThen(l ...api.Action) api.Base { return api.Base{Rules: []api.Rule{{Name: "r", Then: l}}} }
