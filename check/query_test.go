package check_test

import (
	"fmt"
	"strings"
	"testing"
)

// params tells a file with a query that has the parameter $a.
func params(conds string) string { return two + `query q($a) ` + conds + ` end` }

// P7.1, rule 5: each parameter is given, and nothing has it ahead of what gives it.
func TestParams(t *testing.T) {
	for _, s := range []string{
		`P($a : x)`, `P($a : x, $a : y)`, `P($a : x, $a > 1)`, `$a : P()`, `$a : P($a.x == x)`, `$a from [1]`, `?two($a ?, 1)`, `?two($a ?, $a ?)`, `P() R() P($a : x)`, `not (P($b : x)) P($a : x)`, `(P() or Q($b : x)) P($a : x)`, `P($b : x) P($a : x, y == $b)`,
		`P($a : x) eval($a == 1) not (P($a : y)) P($a : y) (P($a : x) or Q()) ?two($a, $a ?)`, `(P($a : x) or Q($a : z))`, `(P($a : x) eval($a > 1) not (P($a : x)) or P() Q($a : z))`, `((P($a : x) or P($a : y)) or P() (Q($a : x) or P() $a : R() eval($a == 1)))`, `P() (P($a : x) or R() Q($a : z)) not (P($a : x))`,
	} {
		keeps(t, params(s))
	}
	for _, s := range []string{
		``, `P()`, `P($b : x)`, `not (P($a : x))`, `exists (P($a : x))`, `not (not (P($a : x)))`, `(P($a : x) or Q())`, `(P() or P($a : x))`, `(P($a : x) or (Q() or P($a : x)))`, `(P($a : x) or not (P($a : x)))`,
		`eval($a > 0) P($a : x)`, `P(x == $a) P($a : x)`, `?two($a, 1) P($a : x)`, `not (P($a : x)) P($a : y)`, `exists (P($a : x) eval($a == 1)) P($a : y)`, `P() not (Q() not ($a : R())) P() P($a : y)`, `not ($a from [1]) P($a : y)`, `not (?two($a ?, 1)) P($a : y)`, `not (?two(1, $a ?)) $a : P()`, `not ((P($a : x) or Q($a : y))) P($a : y)`, `(P() or not (P($a : x))) P($a : y)`, `(P() or P($a : x)) P($a : y)`,
		`(not (P($a : x)) P($a : y) or P($a : z))`, `(P($a : x) or not (P($a : x)) P($a : x))`, `not (P($a : x)) (P($a : x) or Q($a : x))`, `(P($a : x) or (P($a : y) or exists (R($a : p)) P($a : x)))`, `((P() or not (R($a : p))) P($a : x) or P($a : x))`, `(P($a : x) or P() (not (P($a : x)) R() or P()) P($a : x))`,
	} {
		breaks(t, params(s), "q")
	}
	keeps(t, `query q($a, $b, $c) P($b : x, $a : y) not (P($a : x)) P($c : x) end query s() not (P($a : x)) P($a : x) end`)
	breaks(t, `query q($a, $b, $c) P($b : x, $a : y) not (P($c : x)) P($c : x) end`, "q")
	breaks(t, `query q($a, $b, $c) P($b : x, $a : y) P($d : x) end`, "q")
	breaks(t, `query a($x) P($x : x) end query q($a) P() end`, "q")
}

// asks makes a file of queries without parameters: a word each, of its name and what it asks: as it is, within a not (!), or an exists (?).
func asks(s string) string {
	file := ""
	for _, w := range strings.Fields(s) {
		conds := "P()"
		for i := 1; i < len(w); i++ {
			switch w[i] {
			case '!':
				i++
				conds += fmt.Sprintf(" not (?%c())", w[i])
			case '?':
				i++
				conds += fmt.Sprintf(" exists (P() (Q() or Q() ?%c()))", w[i])
			case '|':
				i++
				conds += fmt.Sprintf(" (P() or ?%c())", w[i])
			case '~':
				i++
				conds += fmt.Sprintf(" (P() or not (not (P() ?%c())))", w[i])
			default:
				conds += fmt.Sprintf(" ?%c()", w[i])
			}
		}
		file += fmt.Sprintf("query %c() %s end ", w[0], conds)
	}
	return file
}

// P7.1, rule 5: no query hangs on itself through not and exists.
func TestHanging(t *testing.T) {
	for _, s := range []string{
		"aa", "ab ba", "ab bc ca", "a!b b", "a!b b?c c~d d", "a!b bb", "aa!b b", "ab!c ba c", "a!b!b b?c cc", "abc!d bac!d cab?d dd", "a|b b|a", "ab b!c ccd ddc", "a!b bc cb", "a?b bc cd db", "abc b c!ba", "a!bb b!c?c~cc c",
	} {
		keeps(t, asks(s))
	}
	for s, where := range map[string]string{
		"a!a": "a", "a?a": "a", "a~a": "a", "aa!a": "a", "ab b!b": "b", "a!b ba": "a", "ab b!a": "a", "ab b?a": "a", "a|b b~a": "a", "ab b!c ca": "a", "ab bc c!a": "a", "a!b bc ca": "a", "a?b b!a": "a", "ab bc c!b": "b", "a bc c?b": "b",
		"ab bac c!c": "c", "ab bab!b": "a", "abc b!a c": "a", "a bb!a cd dc!d": "c", "abb!c b ca": "a", "ab ba!c cd da": "a", "ab!c ba cd dc?d": "c", "ab bc cd d!b": "b",
	} {
		breaks(t, asks(s), where)
	}
	breaks(t, `query q($a) P($a : x) not (?q($a)) end`, "q")
	breaks(t, `query p($a) P($a : x) end query q($a) P($a : x) ?t($a) end query t($a) P($a : x) exists (?p($a) ?q($b ?)) end`, "q")
	keeps(t, `rule "q" when not (?q()) not (P() exists (?q())) then end query q() P() ?q() end`)
}

// P7.1, rule 5: both parts of it are asked of a query ahead of the next one.
func TestQueriesInOrder(t *testing.T) {
	breaks(t, `query a() P() not (?a()) end query b($x) P() end`, "a")
	breaks(t, `query b($x) P() end query a() P() not (?a()) end`, "b")
	breaks(t, `query z($x) P($x : x) end query b($x) P() end query a($x) P() end`, "b")
	breaks(t, `query z() P() ?a() end query b() P() exists (?b()) end query a() P() not (?a()) end`, "b")
}
