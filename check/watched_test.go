package check_test

import (
	"testing"

	"proctor/api"
	"proctor/check"
)

const wide = `class W { d : any c : any b : any a : any } class V extends W { e : any } `

// watches asks on which fields a rule's conditions hang through one of them; "!" stands for ErrArg.
func watches(t *testing.T, conds string, i int, want string) {
	t.Helper()
	b := read(t, wide+`rule "r" when `+conds+` then end`)
	got, err := check.Watched(b, b.Rules[0].When, i)
	s := words(got)
	if err == api.ErrArg && got == nil {
		s = "!"
	} else if err != api.OK {
		t.Errorf("%s: %v, %d", conds, got, err)
	}
	if s != want {
		t.Errorf("%s, %d: %q instead of %q", conds, i, s, want)
	}
}

// P7.3: fields of binds, of tests, and those that are got of the pattern's own variable; in the class's order, each once.
func TestWatched(t *testing.T) {
	for conds, want := range map[string]string{
		`W()`: "", `W($x : a)`: "a", `W($a : b, c == $a)`: "c b", `W($d : a, $d)`: "a", `$a : W($a)`: "", `W($x : a, $y : d)`: "d a", `W(a == 1, c == b)`: "c b a", `W($x : a, a > 1 && size(a) == -a)`: "a", `W(has([1, [b]], !d))`: "d b", `W(a.b.c)`: "a", `W(1 == 1)`: "", `V($x : e, d == a)`: "d a e", `V()`: "", `W(e == 1, $x : e, $y : a)`: "a", `W(foo)`: "",
		`$p : W()`: "", `$p : W($p.c == 1)`: "c", `$p : W(a == $p.c)`: "c a", `$p : V($p.e == $p.b)`: "b e", `$p : W($p.e == $p.foo)`: "", `$p : W($p.a.b == 1)`: "a", `$p : W([$p] == [$p.b.c.d])`: "b", `W($p.a)`: "", `$p : W($q.a, $q.p.b)`: "", `$p : W(p.a)`: "", `$p : W($x : b, $x.a)`: "b",
		`$p : W() W($p.a) V($x : d, b == $p.c)`: "c a", `$p : W() eval($p.a == 1)`: "a", `$p : W() $x from [$p.b]`: "b", `$p : W() ?q($p.a, $x ?, [$p.d])`: "d a", `$p : W() acc($s : sum($p.a) over W())`: "a", `$p : W() acc($s : sum(1) over W($p.d))`: "d",
		`$p : W() not (W($p.a) not (eval($p.b == $p.e)))`: "b a", `$p : W() exists ($x from $p.c)`: "c", `$p : W() forall (W($p.a) ; ?q(-$p.b))`: "b a", `$p : W() (W() or eval($p.a) (V($p.d) or V() not (W($p.c))))`: "d c a", `$p : W() eval($q.a) not ($q : W($q.b))`: "", `$p : W() not ($p : V($p.b == 1))`: "b",
		`W() $p : W() eval($p.a)`: "", `$p : W(b) W(a) V(c)`: "b", `$p : V(e) (W(a) or $p from 1) eval($P.a)`: "e",
	} {
		watches(t, conds, 0, want)
	}
	for i, want := range []string{"a", "c b", "!", "c e", "!"} {
		watches(t, `$p : W($p.a) $q : W($q.b == $p.a) eval($q.c == $r.c) $r : V(e) (W(a) or W(b))`, i, want)
	}
	watches(t, `eval($p.a) not ($p : W($p.b)) $p : V($x : d)`, 2, "d b a")
}

// P7.3: what is no pattern of a class of the table.
func TestWatchedNone(t *testing.T) {
	for conds, i := range map[string]int{
		``: 0, `W()`: 1, `W() V()`: -1, `W() `: 99, `W()  `: -1 << 63, `W()   `: 1<<63 - 1, `S()`: 0, `W() w()`: 1, `not (W())`: 0, `exists (W())`: 0, `forall (W() ; W())`: 0, `(W() or W())`: 0, `$x from 1`: 0, `eval(a)`: 0, `acc($x : sum(a) over W())`: 0, `?q()`: 0,
	} {
		watches(t, conds, i, "!")
	}
	l := []api.Cond{{Kind: api.CFact, Class: "W"}}
	for name, classes := range map[string][]api.Class{
		"none": nil, "two": {{Name: "W"}, {Name: "W"}}, "no name": {{Name: "W"}, {}}, "no super": {{Name: "W"}, {Name: "V", Super: "X"}}, "no type": {{Name: "W", Fields: []api.Field{{Name: "a", Type: 9}}}},
	} {
		if got, err := check.Watched(api.Base{Classes: classes}, l, 0); got != nil || err != api.ErrArg {
			t.Errorf("%s: %v, %d", name, got, err)
		}
	}
	for kind := -2; kind < 99; kind++ {
		l := []api.Cond{{Kind: kind, Class: "W", Tests: []api.Expr{{Op: api.EField, Text: "a"}}}}
		got, err := check.Watched(api.Base{Classes: []api.Class{{Name: "W", Fields: []api.Field{{Name: "a"}}}}}, l, 0)
		if is := kind == api.CFact; is && (words(got) != "a" || err != api.OK) || !is && (got != nil || err != api.ErrArg) {
			t.Errorf("%d: %v, %d", kind, got, err)
		}
	}
}

// P7.3: all else of the base, and of the list, may be whatever it is.
func TestWatchedByHand(t *testing.T) {
	b := read(t, wide)
	b.Rules, b.Queries = make([]api.Rule, 2), make([]api.Query, 2)
	p := api.Expr{Op: api.EVar, Text: "p"}
	get := func(e api.Expr, field string) api.Expr {
		return api.Expr{Op: api.EGet, Text: field, Args: []api.Expr{e}}
	}
	deep := []api.Cond{{Kind: api.CEval, E: get(p, "c")}}
	for range 1 << 15 {
		deep = []api.Cond{{Kind: api.CNot, Conds: deep}}
	}
	e := get(p, "b")
	for range 1 << 15 {
		e = api.Expr{Op: api.ENeg, Args: []api.Expr{e}}
	}
	l := append(deep, api.Cond{Kind: api.CFact, Var: "p", Class: "V", Binds: []api.Bind{{}, {Field: "a"}}, Tests: []api.Expr{{}, {Op: api.EGet, Text: "d"}, {Op: 99}, e}}, api.Cond{Kind: -1}, api.Cond{Kind: api.CFact, Class: "S"})
	got, err := check.Watched(b, l, 1)
	if words(got) != "c b a" || err != api.OK {
		t.Errorf("%v, %d", got, err)
	}
	l[1].Var = ""
	l = append(l, api.Cond{Kind: api.CEval, E: get(api.Expr{Op: api.EVar}, "d")})
	if got, err := check.Watched(b, l, 1); words(got) != "a" || err != api.OK {
		t.Errorf("without a Var: %v, %d", got, err)
	}
}
