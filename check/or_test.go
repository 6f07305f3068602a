package check_test

import (
	"strings"
	"testing"
)

// P7.1, rule 3: what all alternatives give is there behind them.
func TestAlternatives(t *testing.T) {
	for _, s := range []string{
		`(P($x : x) or Q($x : z)) eval($x == 1)`, `(P($x : x) or Q($x : z) or $x from [1]) P($x : x, y == $x)`, `($x : P() or $x : R()) R(p == $x)`, `(P($x : x, $y : y) or P($y : x) $x from [$y]) eval($x == $y)`, `(?two($x ?, 1) or ?two(1, $x ?)) eval($x == 1)`,
		`((P($x : x) or P($x : y)) or Q($x : x)) eval($x == 1)`, `((P($x : x) or P($x : y)) R() or Q() (Q($x : x) or R($x : p))) eval($x == 1)`, `P($o : x) (P(x == $o) or eval($o == 1))`, `P($x : x) (P($x : y) or Q($x : z)) eval($x == 1)`,
		`(P() or Q())`, `(P($x : x) or Q($y : z))`, `(P($x : x) eval($x == 1) or Q($y : z) eval($y == 1))`,
	} {
		fine(t, s)
	}
	for _, s := range []string{
		`(P($x : x) or Q()) eval($x == 1)`, `(P() or Q($x : x)) eval($x == 1)`, `(P($x : x) or Q($x : x) or R()) eval($x == 1)`, `(P($x : x) or eval($x == 1))`, `(eval($x == 1) or P($x : x))`, `(P($x : x) or not (Q($x : x))) eval($x == 1)`, `(P($x : x) or Q($y : x)) eval($x == $y)`,
		`((P($x : x) or Q()) or Q($x : x)) eval($x == 1)`, `((P($x : x) or Q($x : x)) or Q()) eval($x == 1)`, `P($o : x) (P($o : y) or Q($x : x, x == $o)) eval($x == 1)`, `(P() or S())`, `(S() or P())`, `(P() or P() not (S()))`,
	} {
		bad(t, s)
	}
}

// given tells conditions that give $x, at all levels and of all kinds: those that a query may have first.
func given() (all, some []string) {
	some = []string{`R($x : p)`, `$x : R()`, `R($x : p, $x : p)`, `$x from [1]`, `?two($x ?, 1)`, `?two($o ?, $x ?)`, `not (R($x : p))`, `exists (P() $x : R())`, `not (P() not ($x from [1]))`, `(P() or R($x : p))`, `(R($x : p) or P($x : x))`, `(P() or Q() not (P() (R() or $x from [2])))`}
	return append([]string{`acc($x : count(1) over P())`, `acc($o : count(1) over $x : R())`, `acc($o : count(1) over P() not (R($x : p)))`, `forall (R($x : p) ; P())`, `forall (P() ; R($x : p))`, `not (forall (P() ; P() exists ($x from [2])))`}, some...), some
}

// P7.1, rule 3: what some alternatives give, and not all, is given by none behind them, at any level: in the list's own, those around it, and Then.
func TestSpoilt(t *testing.T) {
	all, some := given()
	frames := []string{
		`(P($x : x) or Q()) #`, `(Q() or $x : P()) P() #`, `($x from [1] or Q() or P($x : x)) #`, `(P() or P() ?two(1, $x ?)) #`,
		`((P($x : x) or Q()) # or R())`, `((P($x : x) or Q()) or R()) #`, `(P() or R() (P() or R() (P($x : x) or Q()) P())) P() #`, `(P() or R() (P() (P($x : x) or Q()) or R()) #)`, `(P() or R() (P() or R() (P($x : x) or Q()) #))`,
		`(P($x : x) or (Q() or P($x : x))) #`, `((Q() or P($x : x)) or P($x : x)) #`, `not (P() (P($x : x) or Q()) #)`, `exists (P() ((P() or P($x : x) or Q()) or P()) #)`, `(not (P() (P($x : x) or Q()) #) or R())`,
	}
	for _, f := range frames {
		for _, s := range all {
			breaks(t, when(strings.Replace(f, "#", s, 1)), "r")
		}
		for _, s := range some {
			breaks(t, query(strings.Replace(f, "#", s, 1)), "q")
		}
	}
	for _, f := range []string{`acc($o : count(1) over P()) (acc($x : count(1) over P()) or Q()) #`, `forall ((P($x : x) or Q()) # ; P())`, `forall ((P($x : x) or Q()) ; #)`, `forall (P() ((R() or $x : P()) or P()) ; R() #)`, `forall (P() ; (P($x : x) or Q()) #)`, `(P() or forall (P() (P($x : x) or Q()) ; #))`} {
		for _, s := range all {
			breaks(t, when(strings.Replace(f, "#", s, 1)), "r")
		}
	}
}

// P7.1, rule 3: it may be given where it is not behind, or where it was there ahead.
func TestNotSpoilt(t *testing.T) {
	all, some := given()
	for _, f := range []string{
		`(P($x : x) or #)`, `(# or P() or $x : Q())`, `((P($x : x) or Q()) or #)`, `(P() (P($x : x) or Q()) or #)`, `(# or (P() or P($x : x)) P())`,
		`not ((P($x : x) or Q())) #`, `exists (P() (P($x : x) or Q())) #`, `(P() or not (P() (P($x : x) or Q()))) #`, `(not ((P($x : x) or Q())) # or P())`,
	} {
		for _, s := range all {
			keeps(t, when(strings.Replace(f, "#", s, 1)))
		}
		for _, s := range some {
			keeps(t, query(strings.Replace(f, "#", s, 1)))
		}
	}
	for _, f := range []string{`forall ((P($x : x) or Q()) ; P()) #`, `forall (P() ; (P($x : x) or Q())) #`, `(forall ((P($x : x) or Q()) ; P()) or P()) #`} {
		for _, s := range all {
			keeps(t, when(strings.Replace(f, "#", s, 1)))
		}
	}
	for _, f := range []string{`# (P($x : x) or Q())`, `# P() (P() or Q($x : x))`, `forall (# ; (P($x : x) or Q()))`} {
		for _, s := range all {
			if s == `(P() or R($x : p))` {
				breaks(t, when(strings.Replace(f, "#", s, 1)), "r")
				continue
			}
			keeps(t, when(strings.Replace(f, "#", s, 1)))
		}
	}
	for _, s := range []string{
		`(P($x : x) or Q($x : y)) P($x : x)`, `($x : P() or (P($x : x) or Q($x : x))) not ($x from [1])`, `(P($x : x, $z : y) or Q($x : x)) ?two($x ?, $x ?)`, `P($x : x) (P($x : y) or Q()) P($x : x)`, `P($x : x) (P() or $x from [1]) not (P($x : x)) ?two($x ?, $x)`,
		`$x from [1] ((P($x : y) or Q()) P($x : x) or P()) P($x : x)`, `P($x : x) not ((P($x : y) or Q()) P($x : x))`, `(P($x : x) (P($x : x) or R()) P($x : y) or P($x : x)) P($x : y)`, `(P($x : x) or Q()) (P($y : x) or Q()) P($z : y)`,
	} {
		fine(t, s)
	}
	bad(t, `(P($x : x) (P($x : x) or R()) P($x : y) or P()) P($x : y)`)
	bad(t, `(P($x : x) or Q()) (P($y : x) or Q()) P($x : y)`)
	bad(t, `(P($x : x) or Q()) (P($y : x) or Q()) P($y : y)`)
}
