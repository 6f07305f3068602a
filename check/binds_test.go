package check_test

import (
	"strings"
	"testing"

	"proctor/api"
	"proctor/check"
)

// gives asks what a rule's conditions give, whatever classes and queries there are.
func gives(t *testing.T, conds, want string) {
	t.Helper()
	b := read(t, `rule "r" when `+conds+` then end`)
	for _, b := range []api.Base{b, {}, {Classes: make([]api.Class, 1)}} {
		if got := words(check.Binds(b, read(t, `rule "r" when `+conds+` then end`).Rules[0].When)); got != want {
			t.Errorf("%s: %q instead of %q", conds, got, want)
		}
	}
}

// P7.2: the variables that conditions give, as they come first.
func TestBinds(t *testing.T) {
	for conds, want := range map[string]string{
		``: "", `P()`: "", `P($a : x)`: "a", `$p : P($a : x, $b : y)`: "p a b", `$p : P($b : x, $a : y, $b : z)`: "p b a", `P(x == $a, $b : y, $c.d)`: "b", `P($b : x) Q($a : x, $b : y) $c : R()`: "b a c", `$p : P($p : x)`: "p",
		`$a from $b`: "a", `$a from [1] $a from [$a]`: "a", `eval($a)`: "", `?q($a ?, $b, 1, $c ?, $a ?)`: "a c", `?q()`: "", `acc($s : sum($v) over P($v : x))`: "s", `P($v : x) acc($s : sum($v) over acc($t : sum(1) over $u : P())) $t from 1`: "v s t",
		`not (P($a : x))`: "", `exists ($a : P() $b from [1])`: "", `forall (P($a : x) ; P($b : x))`: "", `not (P($a : x)) P($b : x) exists (P($c : x)) P($a : x)`: "b a",
		`(P($a : x) or P($a : y))`: "a", `(P($a : x, $b : y) or P($b : x, $a : y))`: "a b", `(P($b : x, $a : y) or $a from 1 $c from 1 $b from 1)`: "b a", `(P($a : x) or Q())`: "", `(P() or Q($a : x))`: "", `(P($a : x) or Q($a : x) or R())`: "", `(P($a : x) or not (P($a : x)))`: "",
		`P($c : x) (P($a : x, $c : y) or Q($a : x)) P($b : x)`: "c a b", `(P($a : x) or Q($b : x)) P($b : x) P($a : y)`: "b a", `(P($a : x) or Q()) (P($a : x) or Q($a : x))`: "a", `(P($a : x) or Q()) (Q() or P($a : x))`: "",
		`((P($a : x, $b : x) or P($b : x, $c : y)) or P($b : x))`: "b", `((P($a : x) or Q()) or P($a : x))`: "", `((P($a : x) or Q()) P($b : x) P($a : x) or P($a : x) P($b : y))`: "b a", `(P($a : x) ($b from 1 $c from 2 or ?q($c ?, $b ?)) or P($c : x, $b : x, $a : x))`: "a b c", `($a : P() or ?q($a ?) or acc($a : sum(1) over P()) or $a from 1)`: "a",
	} {
		gives(t, conds, want)
	}
}

// P7.2: conditions by hand: none of them is barred.
func TestBindsByHand(t *testing.T) {
	fact := func(v string) api.Cond { return api.Cond{Kind: api.CFact, Var: v} }
	or := func(alts ...[]api.Cond) api.Cond { return api.Cond{Kind: api.COr, Alts: alts} }
	l := func(l ...api.Cond) []api.Cond { return l }
	for i, c := range []struct {
		l    []api.Cond
		want string
	}{
		{nil, ""}, {l(), ""}, {l(api.Cond{}), ""}, {l(fact("")), ""}, {l(fact("1 x"), fact("$")), "1 x $"}, {l(fact(strings.Repeat("x", 1000))), strings.Repeat("x", 1000)},
		{l(api.Cond{Kind: api.CFrom}, api.Cond{Kind: api.CAcc}, api.Cond{Kind: api.CQuery, Args: make([]api.Arg, 2)}, api.Cond{Kind: api.CFact, Binds: []api.Bind{{}, {Field: "x"}, {Var: "a"}}}), "a"},
		{l(or()), ""}, {l(or(nil)), ""}, {l(or(nil, nil)), ""}, {l(or(l(fact("a")))), "a"}, {l(or(l(fact("a")), nil)), ""}, {l(or(nil, l(fact("a")))), ""}, {l(or(l(fact("a")), l(fact(""), fact("a")))), "a"}, {l(fact("b"), or(), fact("a")), "b a"},
		{l(api.Cond{Kind: api.CEval, Var: "a"}, api.Cond{Kind: api.CNot, Var: "a"}, api.Cond{Kind: api.CExists, Var: "a"}, api.Cond{Kind: api.CForall, Var: "a"}, api.Cond{Var: "a"}, api.Cond{Kind: 99, Var: "a"}, api.Cond{Kind: -1, Var: "a"}), ""},
		{l(api.Cond{Kind: api.CFact, Alts: [][]api.Cond{l(fact("a"))}, Conds: l(fact("a")), Then: l(fact("a")), Args: []api.Arg{{Var: "a"}}}, api.Cond{Kind: api.CFrom, Binds: []api.Bind{{Var: "a"}}}, api.Cond{Kind: api.CQuery, Var: "a", Args: []api.Arg{{Var: "b"}}}, api.Cond{Kind: api.COr, Var: "a", Conds: l(fact("a")), Binds: []api.Bind{{Var: "a"}}}), "b"},
	} {
		if got := words(check.Binds(api.Base{}, c.l)); got != c.want {
			t.Errorf("%d: %q instead of %q", i, got, c.want)
		}
	}
}

// P7.2: what is more than MaxDeep deep gives nothing.
func TestBindsDeep(t *testing.T) {
	nested := func(n int) []api.Cond { // conditions that are n deep
		l := []api.Cond{{Kind: api.CFact, Var: "a"}}
		for range n - 1 {
			l = []api.Cond{{Kind: api.CFact, Var: "b"}, {Kind: api.COr, Alts: [][]api.Cond{l}}}
		}
		return l
	}
	for n, want := range map[int]string{1: "a", 2: "b a", 29: "b a", 30: "b a", 31: "b", 32: "b", 60: "b", 1000: "b", 1 << 16: "b"} {
		if got := words(check.Binds(api.Base{}, nested(n))); got != want {
			t.Errorf("%d deep: %q instead of %q", n, got, want)
		}
	}
	two := []api.Cond{{Kind: api.COr, Alts: [][]api.Cond{nested(29), nested(29)}}, {Kind: api.COr, Alts: [][]api.Cond{nested(29), nested(30)}}}
	if got := words(check.Binds(api.Base{}, two[:1])); got != "b a" {
		t.Errorf("30 deep both: %q", got)
	}
	if got := words(check.Binds(api.Base{}, two[1:])); got != "b" {
		t.Errorf("30 and 31 deep: %q", got)
	}
}
