package desugar_test

import (
	"strings"
	"testing"

	"proctor/api"
	"proctor/desugar"
)

// filled puts so many conditions in the place of #.
func filled(frame string, n int) string {
	return strings.Replace(frame, "#", strings.Repeat("P() ", n), 1)
}

// either is a condition of so many alternatives.
func either(n int) string {
	return `(` + strings.Repeat(`P() or `, n-1) + `P()) `
}

// P9.1: as many alternatives as may be, and one more.
func TestAlternatives(t *testing.T) {
	for s, n := range map[string]int{
		strings.Repeat(either(2), 9): 512, strings.Repeat(either(8), 3): 512, either(512): 512, either(16) + `not (P()) ` + either(32): 512, `(` + either(15) + `or P()) P() ` + either(32): 512, `(P() or ` + either(255) + `)` + either(2): 512, either(73) + either(7): 511, either(300): 300, `(` + either(300) + ` or ` + either(212) + `)`: 512,
	} {
		takes(t, s, conds(t, s), n)
	}
	for _, s := range []string{
		strings.Repeat(either(2), 10), strings.Repeat(either(2), 60), either(513), either(27) + either(19), either(8) + either(8) + either(9), `(` + either(17) + `or P() or P()) ` + either(27), `P() ` + either(171) + either(3), `(` + either(300) + ` or ` + either(213) + `)`, strings.Repeat(either(3), 63),
	} {
		refuses(t, s, conds(t, s))
	}
}

// P9.1: as many conditions in an alternative as may be, at all levels, and one more.
func TestConditions(t *testing.T) {
	for frame, most := range map[string]int{
		`#`: 64, `not (#)`: 63, `exists (#)`: 63, `not (P() exists (R() not (#)))`: 59, `acc($x : count(1) over # P()) P()`: 61, `eval(true) $x from [1] ?nil() #`: 61,
		`not ((P() or Q()) #)`:                                       30, // 2 * (1 + 1 + n)
		`not ((P() or Q() P()) #) P()`:                               29, // (1 + 1 + n) + (1 + 2 + n) + 1
		`not ((P() or #))`:                                           61, // (1 + 1) + (1 + n)
		`not (not ((P() or Q()) #))`:                                 29, // 1 + 2 * (1 + 1 + n)
		`not ((P() or Q()) (P() or Q()) #)`:                          13, // 4 * (1 + 2 + n)
		`exists ((P() or Q()) #) P()`:                                29, // 1 + 2 * (1 + 1 + n) + 1
		`exists (exists ((P() or Q()) #))`:                           29, // 1 + 1 + 2 * (1 + 1 + n)
		`exists (exists (#) P() (P() or Q()))`:                       27, // 1 + 2 * (1 + 1 + n + 2)
		`forall (# ; P())`:                                           61, // 1 + n + 1 + 1
		`forall (P() ; #)`:                                           61, // 1 + 1 + 1 + n
		`forall ((P() or Q()) # ; P())`:                              28, // 2 * (1 + 1 + n + 1 + 1)
		`forall (P() ; (P() or Q()) #)`:                              29, // 1 + 1 + 2 * (1 + 1 + n)
		`forall ((P() or Q()) ; (P() or Q()) #)`:                     13, // 2 * (1 + 1 + 2 * (1 + 1 + n))
		`acc($x : count(1) over not (forall (P() ; P() P())) #) P()`: 56, // 1 + 1 + (1 + 1 + 1 + 2) + n + 1
	} {
		takes(t, frame, conds(t, filled(frame, most)), 1)
		refuses(t, frame, conds(t, filled(frame, most+1)))
		refuses(t, frame, conds(t, filled(frame, most+200)))
	}
}

// P9.1: each alternative may have as many conditions, be it the first one or the last.
func TestConditionsOfEach(t *testing.T) {
	for frame, most := range map[string]int{
		`(# or P())`: 64, `(P() or #)`: 64, `(P() or Q() # R()) S()`: 61, `(P() or Q() P() P()) #`: 61, `# (P() or (Q() or R() P()) S())`: 61, `(P() or not ((P() or Q()) #)) P()`: 29, `(not ((P() or Q()) #) or P()) (P() or Q() P() P())`: 28,
	} {
		if alts, err := desugar.Conds(conds(t, filled(frame, most))); err != api.OK || len(alts) < 2 {
			t.Errorf("%s: %d, %d", frame, len(alts), err)
		}
		refuses(t, frame, conds(t, filled(frame, most+1)))
		refuses(t, frame, conds(t, filled(frame, most+200)))
	}
	half := strings.Repeat("P() ", 32)
	takes(t, "many halves", conds(t, `(`+half+`or `+half+`or `+half+`) (`+half+`or `+half+`)`), 6)
	refuses(t, "many halves", conds(t, `(`+half+`or `+half+`or `+half+`) (`+half+`or P() `+half+`)`))
}

// P9.1: what would become more and more of a few conditions is refused at once.
func TestDoubled(t *testing.T) {
	for _, around := range []string{`not ((P() or Q()) #)`, `exists ((P() or Q()) #)`, `forall ((P() or Q()) ; #)`, `forall ((P() or Q()) # ; P())`, `(P() or not (# (P() or Q())))`} {
		deep := `P()`
		for range 12 {
			deep = strings.Replace(around, "#", deep, 1)
		}
		refuses(t, around, conds(t, deep))
	}
	for _, around := range []string{`not (#)`, `exists (#)`, `forall (# ; P())`, `forall (P() ; #)`, `acc($x : sum(1) over not (#))`, `acc($x : sum(1) over #)`, `P() #`} {
		refuses(t, around, conds(t, strings.Replace(around, "#", strings.Repeat(either(2), 300), 1)))
		refuses(t, around, conds(t, strings.Replace(around, "#", either(600), 1)))
	}
	for n, ok := range map[int]bool{31: true, 32: false, 64: false, 65: false} { // a not, and what is in it, for each
		for _, s := range []string{`not (` + either(n) + `) P()`, `exists (` + either(n) + `)`} {
			if ok {
				takes(t, s, conds(t, s), 1)
			} else {
				refuses(t, s, conds(t, s))
			}
		}
	}
}

// nested tells conditions that are n deep: one of them with within for what stands in it, n - 1 times.
func nested(n int, around func([]api.Cond) api.Cond) []api.Cond {
	l := list(fact("P"))
	for range n - 1 {
		l = list(around(l))
	}
	return l
}

// wraps put a list into a condition, in each of its lists, of whatever kind: in Conds, Then and Alts.
func wraps() map[string]func([]api.Cond) api.Cond {
	all := map[string]func([]api.Cond) api.Cond{
		"not": func(l []api.Cond) api.Cond { return within(api.CNot, l...) }, "exists": func(l []api.Cond) api.Cond { return within(api.CExists, l...) }, "acc": func(l []api.Cond) api.Cond { return within(api.CAcc, l...) },
		"called for": func(l []api.Cond) api.Cond { return forall(l, nil) }, "forall": func(l []api.Cond) api.Cond { return forall(nil, l) }, "or": func(l []api.Cond) api.Cond { return or(l) }, "last or": func(l []api.Cond) api.Cond { return or(list(fact("Q")), l) },
	}
	for kind, name := range map[int]string{api.CNone: "none ", api.CFact: "fact ", api.CNot: "not ", api.CExists: "exists ", api.CFrom: "from ", api.CAcc: "acc ", api.CEval: "eval ", api.CQuery: "query ", 10: "ten ", -1: "below "} {
		all[name+"then"] = func(l []api.Cond) api.Cond { return api.Cond{Kind: kind, Then: l} }
		all[name+"alts"] = func(l []api.Cond) api.Cond { return api.Cond{Kind: kind, Alts: [][]api.Cond{nil, l}} }
		if kind == api.CFact || kind > api.CAcc || kind < api.CFact {
			all[name+"conds"] = func(l []api.Cond) api.Cond { return api.Cond{Kind: kind, Conds: l} }
		}
	}
	all["or conds"] = func(l []api.Cond) api.Cond { return api.Cond{Kind: api.COr, Conds: l, Alts: [][]api.Cond{nil}} }
	all["or then"] = func(l []api.Cond) api.Cond { return api.Cond{Kind: api.COr, Then: l, Alts: [][]api.Cond{nil}} }
	all["forall alts"] = func(l []api.Cond) api.Cond { return api.Cond{Kind: api.CForall, Alts: [][]api.Cond{l}} }
	return all
}

// P9.1: conditions as deep in one another as may be, and one deeper, in whatever list of whatever kind.
func TestDeep(t *testing.T) {
	for name, wrap := range wraps() {
		for n, ok := range map[int]bool{1: true, 2: true, 29: true, 30: true, 31: false, 32: false, 100: false, 1 << 16: false} {
			l := nested(n, wrap)
			_, err := desugar.Conds(l)
			if ok != (err == api.OK) || !ok && err != api.ErrArg {
				t.Errorf("%s: %d deep: %d", name, n, err)
			}
			if _, err := desugar.Conds(list(fact("P"), fact("Q"), l[0])); ok != (err == api.OK) {
				t.Errorf("%s: %d deep, and others ahead: %d", name, n, err)
			}
			if _, err := desugar.Conds(append(l, fact("P"), fact("Q"))); ok != (err == api.OK) {
				t.Errorf("%s: %d deep, and others behind: %d", name, n, err)
			}
		}
	}
}

// P9.1: a depth of lists of all kinds; what stands beside it is not deep.
func TestDeepMixed(t *testing.T) {
	all := wraps()
	names := []string{"or", "not", "or", "acc", "fact conds", "eval then", "query alts", "exists"}
	for n, ok := range map[int]bool{29: true, 30: true, 31: false} {
		i := 0
		l := nested(n, func(l []api.Cond) api.Cond {
			i++
			return all[names[i%len(names)]](append(l, fact("Q")))
		})
		if _, err := desugar.Conds(l); ok != (err == api.OK) {
			t.Errorf("%d deep: %d", n, err)
		}
	}
	deep := nested(30, func(l []api.Cond) api.Cond { return within(api.CNot, l...) })
	takes(t, "beside one another", append(deep, nested(30, func(l []api.Cond) api.Cond { return or(l) })...), 1)
}

// P9.1: what is made of a list may be deeper than the list; P9.4: then it is no list of which cores are made.
func TestDeepMade(t *testing.T) {
	l := nested(29, func(l []api.Cond) api.Cond { return within(api.CNot, l...) })
	alts, err := desugar.Conds(list(forall(list(fact("P")), l)))
	if err != api.OK || len(alts) != 1 || !desugar.Core(alts[0]) {
		t.Fatalf("%s, %d", shorts(alts), err)
	}
	refuses(t, "a core that is too deep", alts[0])
	gives(t, list(forall(list(fact("P")), l[0].Conds)), "!(P !("+short(l[0].Conds)+"))")
}
