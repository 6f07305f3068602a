package parse_test

import (
	"fmt"
	"strings"
	"testing"

	"proctor/api"
	"proctor/parse"
)

// answer tells what a call answered so that no two answers look alike, but for nil and empty lists, which are one.
func answer(told any, at int, err api.Errno) string {
	return strings.ReplaceAll(fmt.Sprintf("%#v / %d / %d", told, at, err), "(nil)", "{}")
}

func file(s string) string { return answer(parse.Parse(s)) }

func expr(s string) string { return answer(parse.Expr(s)) }

// reads holds what Parse tells of s against the base that it must tell.
func reads(t *testing.T, s string, want api.Base) {
	t.Helper()
	if got := file(s); got != answer(want, 0, api.OK) {
		t.Errorf("Parse(%.200q):\n%s instead of\n%s", s, got, answer(want, 0, api.OK))
	}
}

func readsExpr(t *testing.T, s string, want api.Expr) {
	t.Helper()
	if got := expr(s); got != answer(want, 0, api.OK) {
		t.Errorf("Expr(%.200q):\n%s instead of\n%s", s, got, answer(want, 0, api.OK))
	}
}

func barred(t *testing.T, s string, at int) {
	t.Helper()
	if got := file(s); got != answer(api.Base{}, at, api.ErrSyntax) {
		t.Errorf("Parse(%.200q): %.300s instead of a fault at %d", s, got, at)
	}
}

func barredExpr(t *testing.T, s string, at int) {
	t.Helper()
	if got := expr(s); got != answer(api.Expr{}, at, api.ErrSyntax) {
		t.Errorf("Expr(%.200q): %.300s instead of a fault at %d", s, got, at)
	}
}

// barredHere takes the fault's place from a ^ right ahead of it, which is no lexeme.
func barredHere(t *testing.T, s string) {
	t.Helper()
	at := strings.IndexByte(s, '^')
	barred(t, s[:at]+s[at+1:], at)
}

func barredExprHere(t *testing.T, s string) {
	t.Helper()
	at := strings.IndexByte(s, '^')
	barredExpr(t, s[:at]+s[at+1:], at)
}

func when(conds string) string { return `rule "r" when ` + conds + ` then end` }

func then(actions string) string { return `rule "r" when then ` + actions + ` end` }

// readsConds holds the conditions of a rule and those of a query against want.
func readsConds(t *testing.T, s string, want ...api.Cond) {
	t.Helper()
	reads(t, when(s), api.Base{Rules: []api.Rule{{Name: "r", When: want}}})
	reads(t, "query q() "+s+" end", api.Base{Queries: []api.Query{{Name: "q", When: want}}})
}

func readsActions(t *testing.T, s string, want ...api.Action) {
	t.Helper()
	reads(t, then(s), api.Base{Rules: []api.Rule{{Name: "r", Then: want}}})
}

func readsRule(t *testing.T, s string, want api.Rule) {
	t.Helper()
	reads(t, s, api.Base{Rules: []api.Rule{want}})
}

// Parts of bases.

func lit(v api.Value) api.Expr    { return api.Expr{Op: api.ELit, V: v} }
func num(n int64) api.Expr        { return lit(api.Value{Kind: api.VInt, Int: n}) }
func str(s string) api.Expr       { return lit(api.Value{Kind: api.VText, Text: s}) }
func truth(b bool) api.Expr       { return lit(api.Value{Kind: api.VBool, Bool: b}) }
func variable(s string) api.Expr  { return api.Expr{Op: api.EVar, Text: s} }
func field(s string) api.Expr     { return api.Expr{Op: api.EField, Text: s} }
func list(l ...api.Expr) api.Expr { return api.Expr{Op: api.EList, Args: l} }

func get(e api.Expr, s string) api.Expr {
	return api.Expr{Op: api.EGet, Text: s, Args: []api.Expr{e}}
}

func op(op int, args ...api.Expr) api.Expr { return api.Expr{Op: op, Args: args} }

// p is the pattern `P()`.
func p() api.Cond { return api.Cond{Kind: api.CFact, Class: "P"} }

func pattern(class string, tests ...api.Expr) api.Cond {
	return api.Cond{Kind: api.CFact, Class: class, Tests: tests}
}

func conds(l ...api.Cond) []api.Cond { return l }
