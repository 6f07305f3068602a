package parse_test

import (
	"testing"

	"proctor/api"
)

// P5.1: no declaration at all; classes, rules, queries, each in their order, however they are mixed.
func TestFile(t *testing.T) {
	for _, s := range []string{"", " \n", "// nothing", "//"} {
		reads(t, s, api.Base{})
	}
	reads(t, `query b() end class D {} rule "z" when then end class A {} query a() end rule "a" when then end class D {} rule "z" when then end query b() end`, api.Base{
		Classes: []api.Class{{Name: "D"}, {Name: "A"}, {Name: "D"}},
		Rules:   []api.Rule{{Name: "z"}, {Name: "a"}, {Name: "z"}},
		Queries: []api.Query{{Name: "b"}, {Name: "a"}, {Name: "b"}},
	})
	for _, s := range []string{"^x", "^1", "^;", "^end", `^"class" A {}`, "^$rule", "class A {} ^}", "class A {} ^A {}", "class A {}^;", "class A {}^, class B {}", when("P()") + " ^end", "query q() end ^)", "^Class A {}", "^classs A {}"} {
		barredHere(t, s)
	}
}

// P5.1: a class, its super, its fields with and without commas, of each type.
func TestClass(t *testing.T) {
	one := func(s string, c api.Class) {
		t.Helper()
		reads(t, s, api.Base{Classes: []api.Class{c}})
	}
	one("class A {}", api.Class{Name: "A"})
	one("class A extends B {}", api.Class{Name: "A", Super: "B"})
	one("class A extends A { x : int }", api.Class{Name: "A", Super: "A", Fields: []api.Field{{Name: "x", Type: api.TInt}}})
	all := []api.Field{{Name: "a", Type: api.TInt}, {Name: "b", Type: api.TBool}, {Name: "c", Type: api.TText}, {Name: "d", Type: api.TList}, {Name: "e", Type: api.TAny}, {Name: "f", Type: api.TRef, Class: "A"}, {Name: "a", Type: api.TRef, Class: "Z"}}
	one("class A { a : int b : bool c : text d : list e : any f : ref A a : ref Z }", api.Class{Name: "A", Fields: all})
	one("class A{a:int,b:bool,c:text,d:list,e:any,f:ref A,a:ref Z}", api.Class{Name: "A", Fields: all})
	one("class A { a : int , b : bool c : text, d : list e : any f : ref A , a : ref Z }", api.Class{Name: "A", Fields: all})
	for _, s := range []string{
		"class^", "class ^{}", "class ^1", "class ^$A {}", `class ^"A" {}`, "class ^class {}", "class A^", "class A ^x", "class A ^()", "class A extends^", "class A extends ^{}", "class A extends ^any {}", "class A extends B ^extends C {}", "class A extends B^, C {}",
		"class A {^", "class A { ^, }", "class A { ^, x : int }", "class A { x^", "class A { x ^}", "class A { x ^int }", "class A { ^int : int }", "class A { x :^", "class A { x : ^}", "class A { x : ^foo }", "class A { x : ^A }", "class A { x : ^$int }", `class A { x : ^"int" }`, "class A { x : ^null }",
		"class A { x : int^", "class A { x : int,^", "class A { x : int, ^}", "class A { x : int, ^, y : int }", "class A { x : int ^; y : int }", "class A { x : int ^) }", "class A { x : int ^:", "class A { x : int ^5 }",
		"class A { x : ref^", "class A { x : ref ^}", "class A { x : ref ^int }", "class A { x : ref ^, y : int }", "class A { x : ref A ^. b }", "class A { x^, y : int }",
	} {
		barredHere(t, s)
	}
}

// P5.1: attrs: none, each, all, in any order; of one that stands twice the last one holds, an empty text and a 0, too.
func TestAttrs(t *testing.T) {
	one := func(attrs string, r api.Rule) {
		t.Helper()
		r.Name = "r"
		readsRule(t, `rule "r" `+attrs+" when then end", r)
	}
	one("", api.Rule{})
	one("salience 5", api.Rule{Salience: 5})
	one("salience - 5", api.Rule{Salience: -5})
	one(`group "g"`, api.Rule{Group: "g"})
	one(`flow "f"`, api.Rule{Flow: "f"})
	one("noloop", api.Rule{NoLoop: true})
	one("lock", api.Rule{Lock: true})
	one(`lock flow "f" salience 1 noloop group "g"`, api.Rule{Salience: 1, Group: "g", Flow: "f", NoLoop: true, Lock: true})
	one(`salience 3 group "a" flow "b" salience -4 group "c" flow "d"`, api.Rule{Salience: -4, Group: "c", Flow: "d"})
	one(`salience 3 group "a" flow "b" salience 0 group "" flow ""`, api.Rule{})
	one("noloop lock noloop lock", api.Rule{NoLoop: true, Lock: true})
	one("salience -0", api.Rule{})
	one(`group "main" flow "a\n\"b"`, api.Rule{Group: "main", Flow: "a\n\"b"})
	for _, s := range []string{
		"salience ^when", "salience - ^when", "salience - ^- 1", `salience ^"1"`, "salience ^$x", "salience ^(1)", "salience 1 ^+ 2", "salience 1 ^, noloop", "salience ^! 1",
		"group ^g", "group ^when", "flow ^f", "flow ^1", "flow ^when", "noloop ^true", "lock ^1", "^foo", "^then", "^end", "lock^; noloop", `^"noloop"`, "^$lock", "^agenda",
	} {
		barredHere(t, `rule "r" `+s+" when then end")
	}
}

// P5.1: salience goes from -(2^31) to 2^31, and no further; noughts ahead change nothing.
func TestSalience(t *testing.T) {
	for s, n := range map[string]int{
		"2147483647": 1<<31 - 1, "2147483648": 1 << 31, "- 2147483647": 1 - 1<<31, "-2147483648": -1 << 31, "000000000002147483648": 1 << 31, "-  // a remark\n 2147483648": -1 << 31, "1": 1, "-1": -1,
	} {
		readsRule(t, `rule "r" salience `+s+" when then end", api.Rule{Name: "r", Salience: n})
	}
	for _, s := range []string{"^2147483649", "-^2147483649", "- ^2147483649", "^4294967296", "^9223372036854775807", "-^9223372036854775808", "^9223372036854775808", "^18446744073709551616", "-^18446744073709551615", "^99999999999999999999999999", "1 salience ^2147483649"} {
		barredHere(t, `rule "r" salience `+s+" when then end")
	}
}

// P5.1: a rule's name is a text, an empty one, too; conditions and actions may be none.
func TestRule(t *testing.T) {
	readsRule(t, `rule "" when then end`, api.Rule{})
	readsRule(t, `rule "a b\t\\" when then end`, api.Rule{Name: "a b\t\\"})
	readsRule(t, `rule "r" when P() P() then halt; halt; end`, api.Rule{Name: "r", When: conds(p(), p()), Then: []api.Action{{Kind: api.AHalt}, {Kind: api.AHalt}}})
	for _, s := range []string{
		"rule^", "rule ^r when then end", "rule ^when", "rule ^1", "rule ^$r", `rule "r"^`, `rule "r" ^then`, `rule "r" ^P()`, `rule "r" ^"s"`, `rule "r" when^`, `rule "r" when ^end`, `rule "r" when ^when`, `rule "r" when P() ^halt; end`, `rule "r" when P()^, Q() then end`, `rule "r" when P()^; then end`,
		`rule "r" when then^`, `rule "r" when then ^P()`, `rule "r" when then ^then`, `rule "r" when then halt;^`, `rule "r" when then ^; end`, `rule "r" when then end ^end`, `rule "r" when ^noloop then`, `rule "r" when then ^rule`,
	} {
		barredHere(t, s)
	}
}

// P5.1: a query, its params, its conditions.
func TestQuery(t *testing.T) {
	one := func(s string, q api.Query) {
		t.Helper()
		reads(t, s, api.Base{Queries: []api.Query{q}})
	}
	one("query q() end", api.Query{Name: "q"})
	one("query q($a) end", api.Query{Name: "q", Params: []string{"a"}})
	one("query q($b, $a, $b, $end) P() P() end", api.Query{Name: "q", Params: []string{"b", "a", "b", "end"}, When: conds(p(), p())})
	for _, s := range []string{
		"query^", "query ^(", `query ^"q"()`, "query ^$q()", "query ^query()", "query q^", "query q ^end", "query q ^$a", "query q(^", "query q(^a) end", "query q(^1) end", "query q($a^", "query q($a ^$b) end", "query q($a,^", "query q($a, ^) end", "query q(^, $a) end", "query q($a ^?) end", "query q($a ^: x) end", "query q($a^. x)", "query q($a^] end",
		"query q()^", "query q() ^then", "query q() P()^", "query q() P() ^then end", "query q() ^halt; end", "query q() ^when P() end", "query q()^; end", "query q() ^)", "query q() ^{}",
	} {
		barredHere(t, s)
	}
}
