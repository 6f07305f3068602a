package check_test

import (
	"strings"
	"testing"

	"proctor/api"
	"proctor/check"
	"proctor/parse"
	"proctor/print"
)

const classes = `class P { x : int y : any } class Q extends P { z : list } class R { p : ref P } `

func read(t *testing.T, s string) api.Base {
	t.Helper()
	b, at, err := parse.Parse(s)
	if err != api.OK {
		t.Fatalf("%.2000s: %d at %d", s, err, at)
	}
	return b
}

// tells asks what Check says of a base.
func tells(t *testing.T, what string, b api.Base, where string, err api.Errno) {
	t.Helper()
	gotWhere, gotErr := check.Check(b)
	if gotWhere != where || gotErr != err {
		t.Errorf("%.500s: %q, %d instead of %q, %d", what, gotWhere, gotErr, where, err)
	}
}

// keeps asks that a file, with the classes ahead, keeps all rules.
func keeps(t *testing.T, s string) { t.Helper(); tells(t, s, read(t, classes+s), "", api.OK) }

// breaks asks that a file, with the classes ahead, breaks a rule of scope, and where.
func breaks(t *testing.T, s, where string) {
	t.Helper()
	tells(t, s, read(t, classes+s), where, api.ErrScope)
}

// two are the queries that conditions may ask.
const two = ` query two($k, $l) P($k : x, $l : y) end query nil() end `

func when(conds string) string { return `rule "r" when ` + conds + ` then end` + two }

func then(actions string) string {
	return `rule "r" when $p : P($a : x) not (Q($n : x)) then ` + actions + ` end`
}

func query(conds string) string { return two + `query q() ` + conds + ` end` }

// around tells texts in which conditions stand at other levels, among others.
func around(conds string) []string {
	l := []string{conds, `R() ` + conds, conds + ` P()`, `P($o : x) ` + conds + ` eval($o == 1)`}
	for _, s := range []string{`not (#)`, `exists (#)`, `(# or P())`, `(R() or # Q())`, `(R() or Q() or #)`, `not (P() not (R() #))`, `exists ((P() or #) R())`, `((# or P()) R() or Q())`} {
		l = append(l, strings.Replace(s, "#", conds, 1))
	}
	return l
}

// ruleAround tells more of them, of the kinds that a query may not have.
func ruleAround(conds string) []string {
	l := []string{}
	for _, s := range []string{`forall (# ; P())`, `forall (P() ; #)`, `not (forall (R() ; P() #))`, `(forall (# ; R()) or P())`} {
		l = append(l, strings.Replace(s, "#", conds, 1))
	}
	return l
}

func accAround(conds string) []string {
	l := []string{}
	for _, s := range []string{`acc($zz : count(1) over #)`, `acc($zz : list(null) over P() not (#))`, `not (acc($zz : max(1) over # R()))`} {
		l = append(l, strings.Replace(s, "#", conds, 1))
	}
	return l
}

// has tells whether a word stands in a text.
func has(s string, words ...string) bool {
	for _, w := range words {
		if strings.Contains(" "+s+" ", w) {
			return true
		}
	}
	return false
}

// fine asks that conditions keep the rules wherever they stand.
func fine(t *testing.T, conds string) {
	t.Helper()
	for _, s := range append(around(conds), ruleAround(conds)...) {
		keeps(t, when(s))
	}
	if !has(conds, " or ") {
		for _, s := range accAround(conds) {
			keeps(t, when(s))
		}
	}
	if !has(conds, "acc(", "forall (") {
		for _, s := range around(conds) {
			keeps(t, query(s))
		}
	}
}

// bad asks that conditions break a rule of scope wherever they stand.
func bad(t *testing.T, conds string) {
	t.Helper()
	for _, s := range around(conds) {
		breaks(t, when(s), "r")
		breaks(t, query(s), "q")
	}
	for _, s := range append(ruleAround(conds), accAround(conds)...) {
		breaks(t, when(s), "r")
	}
}

// written tells the text of a base that is made by hand.
func written(t *testing.T, b api.Base) string {
	t.Helper()
	s, err := print.Print(b)
	if err != api.OK {
		t.Fatalf("%.500v: %d", b, err)
	}
	return s
}

func words(l []string) string { return strings.Join(l, " ") }
