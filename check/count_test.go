package check_test

import (
	"fmt"
	"math/rand"
	"slices"
	"strings"
	"testing"

	"proctor/api"
)

// filled puts so many conditions in the place of #.
func filled(frame string, n int) string {
	return strings.Replace(frame, "#", strings.Repeat("P() ", n), 1)
}

// P7.1, rule 6: as many conditions as may be, at all levels, and one more: of rules and of queries.
func TestConditions(t *testing.T) {
	for frame, others := range map[string]int{
		`#`: 0, `not (#)`: 1, `exists (#)`: 1, `not (P() #) P()`: 3, `exists (# Q()) Q() not (Q())`: 5, `not (P() exists (R() not (#)))`: 5, `eval(true) $x from [1] ?nil() #`: 3,
		`(P() or #)`: 2, `(P() or Q() or # R())`: 4, `(P() or (Q() # or R()))`: 5, `P() (Q() or exists (# not (R()))) P()`: 7, `((P() or Q()) or #)`: 4,
	} {
		keeps(t, when(filled(frame, 64-others)))
		breaks(t, when(filled(frame, 65-others)), "r")
		keeps(t, query(filled(frame, 64-others)))
		breaks(t, query(filled(frame, 65-others)), "q")
		breaks(t, query(filled(frame, 200)), "q")
	}
	for frame, others := range map[string]int{
		`acc($x : count(1) over #)`: 1, `acc($x : count(1) over P() not (#)) P()`: 4, `P() exists (acc($x : count(1) over #))`: 3, `(P() or acc($x : count(1) over # P()))`: 4,
	} {
		keeps(t, when(filled(frame, 64-others)))
		breaks(t, when(filled(frame, 65-others)), "r")
	}
}

// P7.1, rule 6: as many conditions as may be in what desugar makes of a rule that has fewer as it is written, and one more.
func TestConditionsOfCores(t *testing.T) {
	for frame, most := range map[string]int{
		`not ((P() or Q()) #)`:                                       30, // 2 * (1 + 1 + n)
		`not ((P() or Q() P()) #) P()`:                               29, // (1 + 1 + n) + (1 + 2 + n) + 1
		`exists ((P() or Q()) #) P()`:                                29, // 1 + 2 * (1 + 1 + n) + 1
		`not (not ((P() or Q()) #))`:                                 29, // 1 + 2 * (1 + 1 + n)
		`exists (exists ((P() or Q()) #))`:                           29, // 1 + 1 + 2 * (1 + 1 + n)
		`exists (exists (#) P() (P() or Q()))`:                       27, // 1 + 2 * (1 + 1 + n + 2)
		`not ((P() or Q()) (P() or Q()) #)`:                          13, // 4 * (1 + 2 + n)
		`not ((P() or Q() or R() or P()) #)`:                         14, // 4 * (1 + 1 + n)
		`not ((P() or (Q() or R()) P()) #)`:                          18, // (1 + 1 + n) + 2 * (1 + 2 + n)
		`forall (# ; P())`:                                           61, // 1 + n + 1 + 1
		`forall (P() ; #)`:                                           61, // 1 + 1 + 1 + n
		`forall ((P() or Q()) # ; P())`:                              28, // 2 * (1 + 1 + n + 1 + 1)
		`forall (P() ; (P() or Q()) #)`:                              29, // 1 + 1 + 2 * (1 + 1 + n)
		`forall ((P() or Q()) ; (P() or Q()) #)`:                     13, // 2 * (1 + 1 + 2 * (1 + 1 + n))
		`(P() or not ((P() or Q()) #)) P()`:                          29, // 2 * (1 + 1 + n) + 1
		`(not ((P() or Q()) #) or P()) (P() or Q() P() P())`:         28, // 2 * (1 + 1 + n) + 3
		`acc($x : count(1) over not (forall (P() ; P() P())) #) P()`: 56, // 1 + 1 + (1 + 1 + 1 + 2) + n + 1
	} {
		keeps(t, when(filled(frame, most)))
		breaks(t, when(filled(frame, most+1)), "r")
	}
	for _, s := range []string{`not ((P() or Q()) #)`, `exists ((P() or Q()) #)`, `not ((P() or Q()) (P() or Q()) #)`} { // nobody makes cores of queries
		keeps(t, query(filled(s, 40)))
	}
	for _, around := range []string{`not ((P() or Q()) #)`, `exists ((P() or Q()) #)`, `forall ((P() or Q()) ; #)`, `(P() or not (# (P() or Q())))`} { // what doubles at each level
		deep := `P()`
		for range 8 {
			deep = strings.Replace(around, "#", deep, 1)
		}
		breaks(t, when(deep), "r")
	}
}

// either is a condition of so many alternatives.
func either(n int) string {
	return `(` + strings.Repeat(`P() or `, n-1) + `P()) `
}

// P7.1, rule 6: as many cores as may be, and one more: of a rule, and of all together.
func TestCores(t *testing.T) {
	for _, s := range []string{strings.Repeat(either(2), 9), strings.Repeat(either(8), 3), either(16) + `not (P()) ` + either(32), `(` + either(15) + `or P()) P() ` + either(32), either(63)} {
		keeps(t, when(s))
	}
	for _, s := range []string{strings.Repeat(either(2), 10), strings.Repeat(either(2), 21), strings.Repeat(either(3), 16), either(27) + either(19), either(8) + either(8) + either(9), `(` + either(17) + `or P() or P()) ` + either(27)} {
		breaks(t, when(s), "r")
		keeps(t, query(s))
	}
	rule := func(name, conds string) string { return `rule "` + name + `" when ` + conds + ` then end ` }
	half := rule("a", either(16)+either(16))
	keeps(t, half+rule("b", strings.Repeat(either(4), 4)))
	breaks(t, half+rule("b", strings.Repeat(either(4), 4))+rule("c", ``), "")
	breaks(t, half+rule("b", either(16)+either(17)), "")
	breaks(t, half+rule("b", either(27)+either(19))+rule("c", either(27)+either(19)), "b")
	full := rule("a", strings.Repeat(either(2), 9))
	keeps(t, full)
	for _, s := range []string{``, `P()`, `not (P())`, either(3), strings.Repeat(either(2), 9)} {
		breaks(t, full+rule("b", s), "")
		breaks(t, rule("b", s)+full, "")
	}
	breaks(t, full+full[:6]+"x"+full[6:]+rule("c", filled("#", 65)), "c")
	breaks(t, full+rule("b", ``)+`query q() `+filled("#", 65)+`end`, "q")
	keeps(t, full+`query q() `+strings.Repeat(either(2), 20)+`end query p() end`)
	most := ""
	for i := range 256 {
		most += rule(fmt.Sprint(i), either(2))
	}
	keeps(t, most)
	breaks(t, strings.Replace(most, either(2), either(3), 1), "")
	keeps(t, strings.Replace(most, either(2), `P()`, 1))
}

// P7.1, rule 6: conditions that are as deep in one another as may be, and one deeper, which desugar refuses.
func TestDepthOfRules(t *testing.T) {
	for _, around := range []string{`not (#)`, `exists (#)`, `($x from 2 or #)`, `not (P() #)`, `(# or $x from 1)`} {
		nested := func(n int) string {
			s := `$x from 0`
			for range n - 1 {
				s = strings.Replace(around, "#", s, 1)
			}
			return s
		}
		if !has(around, "P()") {
			keeps(t, when(nested(30)))
			breaks(t, when(nested(31)), "r")
			keeps(t, query(nested(31)))
			breaks(t, `rule "a" when `+nested(31)+` then end rule "b" when `+filled("#", 65)+` then end`, "a")
			breaks(t, `rule "a" when `+nested(31)+` then end rule "b" when then print x; end`, "b")
			continue
		}
		keeps(t, when(nested(29)))
	}
	for _, forall := range []string{`forall ($x from 1 ; #)`, `forall (# ; $x from 1)`} {
		for n := range 3 {
			within := strings.Replace(forall, "#", strings.Repeat(`not (`, 27+n)+`$x from 1`+strings.Repeat(`)`, 27+n), 1)
			if n < 2 {
				keeps(t, when(within))
			} else {
				breaks(t, when(within), "r")
			}
		}
	}
}

// tree is a condition of the core, of which nothing is asked but what stands in it.
type tree []tree

// farTooMany is what choices panics with.
type farTooMany struct{}

// choices makes the alternatives of a list as chapter 9 says.
func choices(l []api.Cond) [][]tree {
	all := [][]tree{{}}
	for _, c := range l {
		var next [][]tree
		for _, ahead := range all {
			for _, piece := range pieces(c) {
				next = append(next, slices.Concat(ahead, piece))
			}
		}
		if all = next; len(all) > api.MaxCores {
			panic(farTooMany{})
		}
	}
	return all
}

// pieces tells what may stand in a condition's place.
func pieces(c api.Cond) [][]tree {
	switch c.Kind {
	case api.COr:
		var all [][]tree
		for _, alt := range c.Alts {
			all = append(all, choices(alt)...)
		}
		return all
	case api.CNot:
		return [][]tree{nots(choices(c.Conds), nil)}
	case api.CForall:
		return [][]tree{nots(choices(c.Conds), nots(choices(c.Then), nil))}
	case api.CExists:
		l := choices(c.Conds)
		if len(l) > 1 {
			return [][]tree{{nots(l, nil)}}
		}
		return [][]tree{{l[0]}}
	case api.CAcc:
		return [][]tree{{choices(c.Conds)[0]}}
	}
	return [][]tree{{{}}}
}

// nots makes a not of each list, with what stands behind it.
func nots(l [][]tree, behind []tree) []tree {
	var all []tree
	for _, x := range l {
		all = append(all, slices.Concat(x, behind))
	}
	return all
}

func (t tree) count() int {
	n := len(t)
	for _, within := range t {
		n += within.count()
	}
	return n
}

func countWritten(l []api.Cond) int {
	n := len(l)
	for _, c := range l {
		n += countWritten(c.Conds) + countWritten(c.Then)
		for _, alt := range c.Alts {
			n += countWritten(alt)
		}
	}
	return n
}

// refused tells whether a rule's conditions have too many cores, or too great ones; else how many cores.
func refused(l []api.Cond) (is bool, cores int) {
	defer func() {
		switch found := recover().(type) {
		case nil:
		case farTooMany:
			is, cores = true, 0
		default:
			panic(found)
		}
	}()
	all := choices(l)
	for _, core := range all {
		if tree(core).count() > api.MaxConds {
			return true, 0
		}
	}
	return false, len(all)
}

// heap makes conditions by chance, some so many, which are there to be counted.
func heap(r *rand.Rand, most, deep int, kinds []int) []api.Cond {
	var l []api.Cond
	for left := 1 + r.Intn(most); left > 0; {
		c := api.Cond{Kind: kinds[r.Intn(len(kinds))], Class: "P"}
		if deep == 0 || left < 4 {
			c.Kind = api.CFact
		}
		n := min(left-1, 1+r.Intn(8))
		switch c.Kind {
		case api.CNot, api.CExists:
			c = api.Cond{Kind: c.Kind, Conds: heap(r, n, deep-1, kinds)}
		case api.CForall:
			c = api.Cond{Kind: c.Kind, Conds: heap(r, max(1, n/2), deep-1, kinds), Then: heap(r, max(1, n/2), deep-1, kinds)}
		case api.COr:
			c = api.Cond{Kind: c.Kind}
			for range 2 + r.Intn(2) {
				c.Alts = append(c.Alts, heap(r, max(1, n/2), deep-1, kinds))
			}
		}
		l = append(l, c)
		left -= countWritten([]api.Cond{c})
	}
	return l
}

// P7.1, rule 6: what is counted is what the alternatives have that chapter 9 makes.
func TestCountsByChance(t *testing.T) {
	r := rand.New(rand.NewSource(6))
	seen := map[string]int{}
	for range 3000 {
		kinds := [][]int{{api.COr}, {api.CFact, api.COr}, {api.CNot, api.COr, api.COr}, {api.CNot, api.CExists, api.CForall, api.COr}, {api.CExists, api.COr, api.CFact}}[r.Intn(5)]
		b := api.Base{Classes: []api.Class{{Name: "P"}}}
		where, total := "", 0
		for i := range 1 + r.Intn(12) {
			name := fmt.Sprint("r", i)
			l := heap(r, 4+r.Intn(66), 4, kinds)
			b.Rules = append(b.Rules, api.Rule{Name: name, When: l})
			many, cores := refused(l)
			if where == "" && (many || countWritten(l) > api.MaxConds) {
				where = name
			}
			total += cores
		}
		text := written(t, b)
		switch {
		case where != "":
			seen["one"]++
			tells(t, text, b, where, api.ErrScope)
		case total > api.MaxCores:
			seen["all"]++
			tells(t, text, b, "", api.ErrScope)
		default:
			seen["none"]++
			tells(t, text, b, "", api.OK)
		}
	}
	if seen["one"] < 300 || seen["all"] < 50 || seen["none"] < 300 {
		t.Error(seen)
	}
}
