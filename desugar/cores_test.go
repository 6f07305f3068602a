package desugar_test

import (
	"fmt"
	"strings"
	"testing"

	"proctor/api"
	"proctor/check"
	"proctor/desugar"
)

const classes = `class P { x : int y : any } class Q extends P { z : list } class R { p : ref P } `

// cores writes cores: rule/alternative and conditions.
func cores(l []api.Core) string {
	var out []string
	for _, c := range l {
		out = append(out, strings.TrimSpace(fmt.Sprintf("%d/%d %s", c.Rule, c.Alt, short(c.When))))
	}
	return strings.Join(out, ", ")
}

// rules writes rules of conditions.
func rules(whens ...string) string {
	s := classes
	for i, when := range whens {
		s += fmt.Sprintf(`rule "%d" when %s then end `, i, when)
	}
	return s
}

// tells asks for the cores of a file.
func tells(t *testing.T, s, want string) {
	t.Helper()
	if l, err := desugar.Cores(read(t, s)); err != api.OK || cores(l) != want {
		t.Errorf("%s: %s, %d instead of %s", s, cores(l), err, want)
	}
}

// bars asks that a file has no cores, and that check tells the same error.
func bars(t *testing.T, s string, want api.Errno) {
	t.Helper()
	b := read(t, s)
	l, err := desugar.Cores(b)
	if _, its := check.Check(b); err != want || its != want || l != nil {
		t.Errorf("%.500s: %d of them, %d, check %d instead of %d", s, len(l), err, its, want)
	}
}

// P9.2: the cores of all rules, in order, alternatives in order; queries have none.
func TestCores(t *testing.T) {
	tells(t, ``, "")
	tells(t, classes+`query q() (P() or Q()) end`, "")
	tells(t, rules(``), "0/0")
	tells(t, rules(`P()`), "0/0 P")
	tells(t, rules(`(P() or Q())`, ``, `P() (Q() or P() or Q())`), "0/0 P, 0/1 Q, 1/0, 2/0 P Q, 2/1 P P, 2/2 P Q")
	tells(t, rules(`not ((P() or Q()))`, `exists ((P() or Q()) R())`, `(forall (P() ; (Q() or R())) or R())`)+`query q() (P() or Q()) end`, "0/0 !(P) !(Q), 1/0 !(!(P R) !(Q R)), 2/0 !(P !(Q) !(R)), 2/1 R")
	tells(t, rules(`$p : P($a : x) acc($s : sum($v) over Q($v : x, x > $a) not (R(p == $p)))`, `(P($a : x) or Q($a : x)) eval($a > 1)`), "0/0 P S(Q !(R)), 1/0 P 8, 1/1 Q 8")
}

// P9.2: a core has its conditions as they are written.
func TestWholeCores(t *testing.T) {
	l, err := desugar.Cores(read(t, rules(`$p : P($a : x, y == [$a, "t"]) (Q(z == $a) or R($p : p)) ?q($b ?, $a) $c from [$b] eval($c > 1)`)+`query q($a, $b) P($a : x, $b : y) end`))
	if err != api.OK || len(l) != 2 {
		t.Fatalf("%s, %d", cores(l), err)
	}
	for i, s := range []string{`Q(z == $a)`, `R($p : p)`} {
		if want := conds(t, `$p : P($a : x, y == [$a, "t"]) `+s+` ?q($b ?, $a) $c from [$b] eval($c > 1)`); !same(l[i].When, want) {
			t.Errorf("%v instead of %v", l[i].When, want)
		}
	}
}

// P9.2: what check bars, with its error.
func TestBarred(t *testing.T) {
	for s, want := range map[string]api.Errno{
		`class A {} class A {}`: api.ErrClass, `class A extends B {}`: api.ErrClass, `class A { x : ref B }`: api.ErrClass, `class A {} class A {} rule "r" when S() then end`: api.ErrClass,
		`rule "r" when S() then end`: api.ErrScope, rules(`P()`) + rules(`P()`)[len(classes):]: api.ErrScope, rules(`P(z == 1)`): api.ErrScope, rules(`P()`, `eval($x)`): api.ErrScope, rules(`not (P($x : x)) eval($x == 1)`): api.ErrScope, rules(`(P($x : x) or Q($y : y)) R($y : p)`): api.ErrScope, rules(`?q()`): api.ErrScope, rules(`acc($x : sum(1) over (P() or Q()))`): api.ErrScope, rules(``) + `query q($a) end`: api.ErrScope, rules(``) + `query q() not (?q()) end`: api.ErrScope, classes + `rule "r" when then print $x; end`: api.ErrScope, classes + `query q() forall (P() ; Q()) end`: api.ErrScope,
		rules(strings.Repeat("P() ", 65)): api.ErrScope, rules(``) + `query q() ` + strings.Repeat("P() ", 65) + `end`: api.ErrScope, rules(`not (` + strings.Repeat("(P() or Q()) ", 6) + `)`): api.ErrScope, rules(strings.Repeat("P() ", 32) + `(` + strings.Repeat("P() ", 16) + `or ` + strings.Repeat("P() ", 16) + `)`): api.ErrScope,
	} {
		bars(t, s, want)
	}
}

// P9.2: as many cores as may be, of one rule and of all together, and one more.
func TestAllCores(t *testing.T) {
	full, half := strings.Repeat(either(2), 9), strings.Repeat(either(4), 4)
	for _, whens := range [][]string{{full}, {half, half}, {half, `P()`, strings.Repeat(either(3), 5), `Q()`, either(11)}, {either(50), either(50), half}} {
		n := 0
		l, err := desugar.Cores(read(t, rules(whens...)))
		for i, when := range whens {
			for j := range strings.Count(shorts(must(t, when)), "|") + 1 {
				if n < len(l) && (l[n].Rule != i || l[n].Alt != j) {
					t.Errorf("%d: %d/%d instead of %d/%d", n, l[n].Rule, l[n].Alt, i, j)
				}
				n++
			}
		}
		if err != api.OK || len(l) != n || n > api.MaxCores {
			t.Errorf("%d of %d, %d", len(l), n, err)
		}
	}
	for _, whens := range [][]string{{full + either(2)}, {full, ``}, {``, full}, {half, half, `P()`}, {half, `P()`, half}, {full, full}, {either(27) + either(19)}, {half, either(16) + strings.Repeat(`(P() or Q() or R() or P()) `, 2) + `not (P())`, `not (Q())`}} {
		bars(t, rules(whens...), api.ErrScope)
	}
	most := make([]string, 256)
	for i := range most {
		most[i] = either(2)
	}
	if l, err := desugar.Cores(read(t, rules(most...))); err != api.OK || len(l) != 512 || l[511].Rule != 255 || l[511].Alt != 1 {
		t.Errorf("%d, %d", len(l), err)
	}
	most[100] = either(3)
	bars(t, rules(most...), api.ErrScope)
}

// must tells alternatives that there are.
func must(t *testing.T, when string) [][]api.Cond {
	t.Helper()
	alts, err := desugar.Conds(conds(t, when))
	if err != api.OK {
		t.Fatalf("%s: %d", when, err)
	}
	return alts
}

// P9.2: a rule's conditions that are as deep as may be, and one deeper.
func TestDeepRules(t *testing.T) {
	for _, around := range []string{`not (#)`, `exists (#)`, `($x from 2 or #)`} {
		rule := func(n int) string {
			s := `$x from 0`
			for range n - 1 {
				s = strings.Replace(around, "#", s, 1)
			}
			return rules(``, s)
		}
		if l, err := desugar.Cores(read(t, rule(30))); err != api.OK || len(l) < 2 || l[1].Rule != 1 {
			t.Errorf("%s: %s, %d", around, cores(l), err)
		}
		bars(t, rule(31), api.ErrScope)
	}
}

// P9.2: bases by hand that may not be written.
func TestBasesByHand(t *testing.T) {
	written := read(t, rules(`P() (Q() or R())`, `not (P())`)+`query q() P() end`)
	for name, spoil := range map[string]func(b *api.Base){
		"a class": func(b *api.Base) { b.Classes[0].Name = "1" }, "a rule": func(b *api.Base) { b.Rules[0].Then = make([]api.Action, 1) }, "a query": func(b *api.Base) { b.Queries[0].Name = "" }, "a kind": func(b *api.Base) { b.Rules[0].When[0].Kind = api.CNone }, "no alternative": func(b *api.Base) { b.Rules[0].When[1].Alts = nil }, "one alternative": func(b *api.Base) { b.Rules[0].When[1].Alts = b.Rules[0].When[1].Alts[:1] }, "an empty not": func(b *api.Base) { b.Rules[1].When[0].Conds = nil }, "a stray list": func(b *api.Base) { b.Rules[0].When[0].Conds = list(fact("P")) }, "a stray alternative": func(b *api.Base) { b.Queries[0].When[0].Alts = [][]api.Cond{nil} },
	} {
		b := copyOf(written)
		spoil(&b)
		if l, err := desugar.Cores(b); err != api.ErrArg || l != nil {
			t.Errorf("%s: %s, %d", name, cores(l), err)
		}
	}
	for _, b := range []api.Base{{Rules: make([]api.Rule, 1), Queries: make([]api.Query, 1)}, {Classes: make([]api.Class, 1)}, {Rules: []api.Rule{{When: list(or())}}}, {Rules: []api.Rule{{When: make([]api.Cond, 1)}}}} {
		if l, err := desugar.Cores(b); err != api.ErrArg || l != nil {
			t.Errorf("%s, %d", cores(l), err)
		}
	}
	if l, err := desugar.Cores(api.Base{}); err != api.OK || len(l) > 0 {
		t.Errorf("nothing: %s, %d", cores(l), err)
	}
}

// P9.3: whether there is no forall and no or, at any level, in a list of whatever kind.
func TestCore(t *testing.T) {
	for _, s := range []string{``, `P()`, `P() $x from 1 eval(true) ?q()`, `not (P())`, `exists (not (exists (P() Q())))`, `not (P()) acc($s : sum(1) over P() not (acc($t : sum(1) over Q())))`} {
		if !desugar.Core(conds(t, s)) {
			t.Errorf("%s is a core", s)
		}
	}
	for _, s := range []string{`(P() or Q())`, `forall (P() ; Q())`, `P() Q() (P() or Q())`, `P() forall (P() ; Q()) Q()`} {
		for _, around := range []string{`#`, `P() #`, `# P()`, `not (#)`, `exists (P() #)`, `acc($s : sum(1) over Q() #)`, `not (exists (not (P() # Q()) P()) P())`, `P() acc($s : sum(1) over exists (acc($t : sum(1) over P() #)))`} {
			if all := strings.Replace(around, "#", s, 1); desugar.Core(conds(t, all)) {
				t.Errorf("%s is no core", all)
			}
		}
	}
	for name, wrap := range wraps() {
		for _, n := range []int{2, 5, 31, 1 << 12} {
			is := wrap(nil).Kind != api.COr && wrap(nil).Kind != api.CForall
			if got := desugar.Core(nested(n, wrap)); got != is {
				t.Errorf("%s, %d deep: %t", name, n, got)
			}
			for _, c := range []api.Cond{or(), or(list(fact("P"))), forall(nil, nil), forall(list(fact("P")), nil)} {
				l := list(c)
				for range n {
					l = list(fact("P"), wrap(append(l, fact("P"))), fact("Q"))
				}
				if desugar.Core(l) {
					t.Errorf("%s, %d deep, with %d within: a core", name, n, c.Kind)
				}
			}
		}
	}
	if !desugar.Core(nested(1<<16, func(l []api.Cond) api.Cond { return within(api.CNot, l...) })) {
		t.Error("as deep as anything may be")
	}
}
