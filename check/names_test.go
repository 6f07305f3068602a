package check_test

import (
	"fmt"
	"strings"
	"testing"

	"proctor/api"
)

// P7.1, rule 1: the classes are a table.
func TestClasses(t *testing.T) {
	for _, s := range []string{``, `class A {}`, classes, `class A { x : ref B } class B extends A { y : any }`} {
		tells(t, s, read(t, s), "", api.OK)
	}
	for _, s := range []string{`class A {} class A {}`, `class A extends B {}`, `class A extends B {} class B {}`, `class A extends A {}`, `class A { x : ref B }`, `class A { x : int x : text }`, `class A { x : int } class B extends A { x : int }`} {
		tells(t, s, read(t, s), "", api.ErrClass)
		s += ` rule "r" when S() then end rule "r" when then end query q($a) end`
		tells(t, s, read(t, s), "", api.ErrClass)
	}
	for n, err := range map[int]api.Errno{api.MaxClasses: api.OK, api.MaxClasses + 1: api.ErrClass} {
		s := ""
		for i := range n {
			s += fmt.Sprintf("class C%d {} ", i)
		}
		tells(t, fmt.Sprint(n, " classes"), read(t, s), "", err)
	}
	for n, err := range map[int]api.Errno{api.MaxFields: api.OK, api.MaxFields + 1: api.ErrClass} {
		s := "class C { "
		for i := range n {
			s += fmt.Sprintf("f%d : int ", i)
		}
		tells(t, fmt.Sprint(n, " fields"), read(t, s+"}"), "", err)
	}
}

const noRule = ` when then end `

// P7.1, rule 2: names are unlike, of rules, of queries, of a query's parameters.
func TestNames(t *testing.T) {
	for _, s := range []string{
		`rule "a"` + noRule + `rule "b"` + noRule + `rule "A"` + noRule + `rule ""` + noRule + `rule " "` + noRule, `rule "a"` + noRule + `query a() end`, `query a() end query b() end query A() end`, `query a($b, $a, $A) P($a : x, $b : x, $A : x) end query b($b, $a) P($a : x, $b : y) end`,
	} {
		keeps(t, s)
	}
	for s, where := range map[string]string{
		`rule "a"` + noRule + `rule "b"` + noRule + `rule "b"` + noRule + `rule "a"` + noRule:                   "b",
		`rule "a"` + noRule + `rule "b"` + noRule + `rule "a"` + noRule + `rule "b"` + noRule:                   "a",
		`rule "x"` + noRule + `rule ""` + noRule + `rule ""` + noRule:                                           "",
		`rule "\n\""` + noRule + `rule "\n\""` + noRule:                                                         "\n\"",
		`query a() end query b() end query b() end query a() end`:                                               "b",
		`query a() end query b() end query a() P($a : x) end query b() end`:                                     "a",
		`query q($a, $a) P($a : x) end`:                                                                         "q",
		`query q($a, $b, $a) P($a : x, $b : x) end`:                                                             "q",
		`query p($a, $b) P($a : x, $b : x) end query q($c, $c) P($c : x) end query r($d, $d) P($d : x) end`:     "q",
		`query q($a, $a) P($a : x) end query b() end query b() end`:                                             "b",
		`query b() end query b() end rule "r"` + noRule + `rule "r"` + noRule:                                   "r",
		`query q($a, $a) P($a : x) end rule "a"` + noRule + `rule "a"` + noRule + `query b() end query b() end`: "a",
	} {
		breaks(t, s, where)
	}
}

// many makes a file of so many rules and queries.
func many(rules, queries int) string {
	var s strings.Builder
	for i := range rules {
		fmt.Fprintf(&s, "rule \"r%d\" when then end ", i)
	}
	for i := range queries {
		fmt.Fprintf(&s, "query q%d() end ", i)
	}
	return s.String()
}

// P7.1, rule 2: as many rules and queries as may be, and one more.
func TestDeclarations(t *testing.T) {
	for _, n := range [][2]int{{256, 0}, {0, 256}, {128, 128}, {255, 1}, {1, 255}} {
		keeps(t, many(n[0], n[1]))
		breaks(t, many(n[0]+1, n[1]), "")
		breaks(t, many(n[0], n[1]+1), "")
	}
	breaks(t, many(300, 300), "")
}

// P7.1: the rules in their order, each for all rules, then for all queries.
func TestOrder(t *testing.T) {
	// what breaks each rule, in the order of the rules: of rules and of queries, with their names.
	steps := []struct{ text, where string }{
		{`rule "two"` + noRule + `rule "two"` + noRule, "two"},
		{`query same() end query same() end`, "same"},
		{`query params($x, $x) P($x : x) end`, "params"},
		{many(257, 0), ""},
		{`rule "scope" when S() then end`, "scope"},
		{`query within() S() end`, "within"},
		{`rule "action" when then print $x; end`, "action"},
		{`query given($x) P() end`, "given"},
		{`rule "conds" when ` + strings.Repeat("P() ", 65) + `then end`, "conds"},
		{`query long() ` + strings.Repeat("P() ", 65) + `end`, "long"},
	}
	for i, first := range steps {
		breaks(t, first.text, first.where)
		for _, later := range steps[i+1:] {
			breaks(t, first.text+" "+later.text, first.where)
			breaks(t, later.text+" "+first.text, first.where)
		}
	}
	s := ""
	for _, x := range steps {
		s = x.text + " " + s
	}
	breaks(t, s, "two")
	breaks(t, `rule "a" when S() then end rule "b" when S() then end query c() S() end`, "a")
	breaks(t, `query c() S() end query d() S() end`, "c")
	breaks(t, `rule "a" when then halt; end rule "b" when then print x; end rule "c" when then print y; end`, "b")
	breaks(t, `rule "a" when then print x; end rule "b" when S() then end`, "b")
}
