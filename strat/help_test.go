package strat_test

import (
	"fmt"
	"strings"
	"testing"

	"proctor/api"
	"proctor/parse"
	"proctor/strat"
)

// classes are five, one of them below another one.
const classes = `class A { x : any p : ref A } class B {} class C extends B {} class D {} class E {} `

func read(t *testing.T, s string) api.Base {
	t.Helper()
	b, at, err := parse.Parse(s)
	if err != api.OK {
		t.Fatalf("%.2000s: %d at %d", s, err, at)
	}
	return b
}

// rules tells rules of pairs: conditions, and the classes that are justified.
func rules(pairs ...string) string {
	s := ""
	for i := 0; i < len(pairs); i += 2 {
		s += fmt.Sprintf(`rule "%d" when `, i/2) + pairs[i] + ` then ` + logicals(pairs[i+1]) + `end `
	}
	return s
}

func logicals(names string) string {
	s := ""
	for _, name := range strings.Fields(names) {
		s += `logical ` + name + ` {}; `
	}
	return s
}

// arrows writes edges: A>B, or, of Not edges, A!B.
func arrows(l []strat.Edge) string {
	var out []string
	for _, e := range l {
		mark := ">"
		if e.Not {
			mark = "!"
		}
		out = append(out, e.From+mark+e.To)
	}
	return strings.Join(out, " ")
}

// lists writes strata.
func lists(l [][]string) string {
	var out []string
	for _, names := range l {
		out = append(out, strings.Join(names, " "))
	}
	return strings.Join(out, " | ")
}

// tells asks what all calls say of a base that keeps check's rules.
func tells(t *testing.T, what string, b api.Base, edges, strata string, err api.Errno) {
	t.Helper()
	l, gotErr := strat.Edges(b)
	if gotErr != api.OK || arrows(l) != edges {
		t.Errorf("%.1000s: edges %s, %d instead of %s", what, arrows(l), gotErr, edges)
	}
	if gotErr := strat.Check(b); gotErr != err {
		t.Errorf("%.1000s: %d instead of %d", what, gotErr, err)
	}
	got, gotErr := strat.Strata(b)
	if lists(got) != strata || gotErr != err || err != api.OK && got != nil {
		t.Errorf("%.1000s: strata %s, %d instead of %s, %d", what, lists(got), gotErr, strata, err)
	}
}

// fine asks what is told of a file, with the classes ahead, that has strata.
func fine(t *testing.T, s, edges, strata string) {
	t.Helper()
	tells(t, s, read(t, classes+s), edges, strata, api.OK)
}

// rings asks that a file, with the classes ahead, has a ring with a Not edge.
func rings(t *testing.T, s, edges string) {
	t.Helper()
	tells(t, s, read(t, classes+s), edges, "", api.ErrStrata)
}

// hangs asks what edges a file has, with the classes ahead.
func hangs(t *testing.T, s, edges string) {
	t.Helper()
	l, err := strat.Edges(read(t, classes+s))
	if err != api.OK || arrows(l) != edges {
		t.Errorf("%.1000s: edges %s, %d instead of %s", s, arrows(l), err, edges)
	}
}

// barred asks that all calls tell an error of a base, and nothing beside it.
func barred(t *testing.T, what string, b api.Base, err api.Errno) {
	t.Helper()
	l, edgesErr := strat.Edges(b)
	lists, strataErr := strat.Strata(b)
	checkErr := strat.Check(b)
	if edgesErr != err || strataErr != err || checkErr != err || l != nil || lists != nil {
		t.Errorf("%.1000s: %v, %d; %d; %v, %d instead of %d", what, l, edgesErr, checkErr, lists, strataErr, err)
	}
}
