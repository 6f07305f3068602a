package check_test

import "testing"

// P7.1, rule 3: patterns: their class, fields, tests, variables.
func TestPatterns(t *testing.T) {
	for _, s := range []string{
		`P()`, `R(p == 1)`, `Q(x == 1, y == z)`, `P($a : x, $b : y)`, `P($a : x, $a : y)`, `P($a : x) P($a : y)`, `P($a : x) Q($a : z, $a : z)`,
		`P($a : x, x == $a)`, `P(x == $a, $a : x)`, `P($a : x, y == $b, $b : y)`, `P($a : x) Q(y == [$a, -$a])`, `P($a : x) not (P(y == $a))`,
		`$p : P($p.x == x)`, `$p : P()`, `$p : P() R(p == $p)`, `$p : P() R($p.foo == $p.bar.baz)`, `$p : P($a : x, $a == $p.y)`, `$p : P() R($p : p)`, `P($p : x) P($p : y)`,
		`$p : P() $q : P($q != $p)`, `P(has([x], size(y)) && !(x > y) || x.a.b == null)`, `not ($p : P()) $p : Q()`,
	} {
		fine(t, s)
	}
	for _, s := range []string{
		`S()`, `p()`, `P(z == 1)`, `P($a : z)`, `P($a : X)`, `R(x == 1)`, `R($a : y)`, `Q($a : p)`, `Q(1 == [2, size(p)])`, `Q(x == 1, x.p == q.x)`,
		`P($a)`, `P(x == $a)`, `P(x == $x)`, `P(x == $a.b)`, `P(has([1, -$a], x))`, `P(x == $a) P($a : x)`, `P($a : x, y == $b) P($b : x)`, `$p : P($q.x == 1)`, `P($p.x == 1)`,
		`$p : P() $p : P()`, `P($p : x) $p : P()`, `$p : P($p : x)`, `$p : P($a : x, $p : y)`, `$p from [1] $p : P()`, `?two($p ?, 1) $p : P()`, `$p : P() not ($p : Q())`, `$p : P() exists (P() not ($p : Q()))`,
		`acc($p : count(1) over P()) $p : P()`, `(P($p : x) or $p : R()) $p : P()`,
	} {
		bad(t, s)
	}
}

// P7.1, rule 3: from and eval.
func TestFromEval(t *testing.T) {
	for _, s := range []string{
		`$a from [1]`, `$a from [1] $a from [2]`, `$a from 1 $b from [$a] $a from [$a, $b]`, `P($a : y) $a from $a`, `$p : P() $p from [$p]`, `$a from 1 P($a : x, x == $a)`,
		`eval(true)`, `P($a : x) eval($a > 1 && has([$a], $a.b))`, `$p : P() eval($p == $p.x)`, `$a from [1] eval(-$a == 1)`, `?two($a ?, $b ?) eval($a == $b)`,
	} {
		fine(t, s)
	}
	for _, s := range []string{
		`$a from $a`, `$a from $b`, `$a from x`, `$a from [1, [x]]`, `$a from [$b]`, `P($a : x) $b from x`, `$a from $b $b from [1]`, `P(x == $a) $a from [1]`,
		`eval($a)`, `eval(x)`, `eval(1 == x.y)`, `P($a : x) eval(x == $a)`, `P($a : x) eval($a == $b)`, `eval($a == 1) P($a : x)`, `eval($a == 1) $a from [1]`, `P($a : x) eval($A == 1)`,
	} {
		bad(t, s)
	}
}

// P7.1, rule 3: acc.
func TestAcc(t *testing.T) {
	for _, s := range []string{
		`acc($s : count(1) over P())`, `acc($s : sum($v) over P($v : x))`, `acc($s : min($v + 1) over P($v : x) $v from [$v])`, `acc($s : max($p.x) over $p : P())`, `acc($s : list([$v, $w]) over ?two($v ?, $w ?))`,
		`P($a : x) acc($s : sum($a) over P())`, `P($a : x) acc($s : sum($a + $v) over Q($a : x, $v : y) eval($a == $v))`, `acc($s : sum(1) over P($v : x)) P($v : y)`, `acc($s : sum(1) over P()) eval($s > 1)`, `acc($s : sum(1) over P()) P($s : x, $s : y)`, `acc($s : sum(1) over P()) $s from [$s]`, `acc($s : sum(1) over P()) ?two($s ?, $s)`,
		`acc($s : count(1) over P() not (Q($v : x)) exists (Q($v : x)) forall (P($v : x) ; Q($v : y)))`, `acc($s : sum($t) over acc($t : sum(1) over P()) eval($t == 1))`, `acc($s : sum($v) over $v from [1, 2])`,
	} {
		fine(t, s)
	}
	for _, s := range []string{
		`acc($s : avg(1) over P())`, `acc($s : Sum(1) over P())`, `acc($s : lists(1) over P())`, `acc($s : sum($v) over P())`, `acc($s : sum($v) over not (P($v : x)))`, `acc($s : sum(x) over P())`, `acc($s : sum([$v, x]) over P($v : x))`, `acc($s : sum($s) over P())`,
		`P($s : x) acc($s : sum(1) over P())`, `$s : P() acc($s : sum(1) over P())`, `acc($s : sum(1) over P()) acc($s : sum(1) over P())`,
		`acc($s : sum(1) over P($s : x))`, `acc($s : sum(1) over $s : P())`, `acc($s : sum(1) over $s from [1])`, `acc($s : sum(1) over ?two($s ?, 1))`, `acc($s : sum(1) over not (P($s : x)))`, `acc($s : sum(1) over P() exists (R() not ($s from [1])))`, `acc($s : sum(1) over acc($s : sum(1) over P()))`, `acc($s : sum(1) over acc($u : sum(1) over P($s : x)))`, `acc($s : sum(1) over forall (P() ; P($s : x)))`,
		`acc($s : sum(1) over P(x == $s))`, `acc($s : sum(1) over P($v : x)) eval($v == 1)`, `acc($s : sum(1) over S())`, `acc($s : sum(1) over P(z))`, `acc($s : sum(1) over P()) $t from [s]`, `eval($s == 1) acc($s : sum(1) over P())`,
		`acc($s : sum(1) over (P() or Q()))`, `acc($s : sum(1) over P() not ((P() or Q())))`, `acc($s : sum(1) over exists (P() not (R() (P() or Q()))))`, `acc($s : sum(1) over acc($u : sum(1) over P() (P() or Q())))`, `acc($s : sum(1) over forall (P() ; (P() or Q())))`, `acc($s : sum(1) over forall ((P() or Q()) ; P()))`, `acc($s : sum($v) over (P($v : x) or Q($v : x)))`,
	} {
		bad(t, s)
	}
	keeps(t, when(`(acc($s : sum(1) over P()) or acc($s : sum(2) over Q())) eval($s == 1)`))
	keeps(t, when(`(P() or Q() acc($s : sum(1) over P()))`))
}

// P7.1, rule 3: questions.
func TestQuestions(t *testing.T) {
	for _, s := range []string{
		`?nil()`, `?two(1, "a")`, `?two($a ?, 1 + 2)`, `?two($a ?, $b ?) ?two($a, $b ?)`, `?two($a ?, $a ?)`, `P($a : x) ?two($a ?, $a ?)`, `P($a : x) ?two($a ?, $a)`, `P($a : x) ?two($b ?, $a.c) eval($b == $a)`, `$p : P() ?two($p, $p ?)`, `not (?two($a ?, 1)) ?two(1, $a ?)`,
	} {
		fine(t, s)
	}
	for _, s := range []string{
		`?three()`, `?Two(1, 2)`, `?P()`, `?r()`, `?nil(1)`, `?nil($a ?)`, `?two()`, `?two(1)`, `?two($a ?)`, `?two(1, 2, 3)`, `?two($a ?, $b ?, $c ?)`,
		`?two($a, 1)`, `?two(1, $a)`, `?two($a ?, $a)`, `?two($a, $a ?)`, `?two($a ?, -$a)`, `?two(x, 1)`, `?two(1, [x])`, `P($a : x) ?two(x, $a)`, `?two($k, $l)`, `not (?two($a ?, 1)) eval($a == 1)`,
	} {
		bad(t, s)
	}
	keeps(t, `query a() ?b(1) end query b($x) P($x : x) end`)
	breaks(t, `query a() ?b() end query b($x) P($x : x) end`, "a")
}

// P7.1, rule 3: what stands within not, exists and forall is there within alone.
func TestWithin(t *testing.T) {
	for _, s := range []string{
		`P($a : x) not (Q($b : x) eval($b == $a)) not (R($b : p))`, `not (P($a : x)) exists (P($a : y)) P($a : x)`, `exists (P($a : x) not (P($b : y) eval($a == $b)) eval($a == 1))`, `not (not (P($a : x) eval($a == 1)))`,
		`forall (P($a : x) ; Q(x == $a) not (R($b : p)))`, `P($o : x) forall (P($a : x, y == $o) eval($a == $o) ; Q($c : x, x == $a) eval($c == $o && $a == $o))`, `forall (P($a : x) ; P($b : x)) forall (P($b : x) ; P($a : x))`, `forall (P($a : x) ; P($a : y))`, `forall (P($a : x) $b from [$a] ; eval($a == $b))`,
	} {
		fine(t, s)
	}
	for _, s := range []string{
		`not (P($a : x)) eval($a == 1)`, `exists (P($a : x)) P(x == $a)`, `exists (P($a : x)) $b from $a`, `not (P($a : x)) ?two($a, 1)`, `not (P($a : x) not (P($b : x)) eval($b == 1))`, `not (P($a : x)) not (eval($a == 1))`, `exists (not (P($a : x)) P(y == $a))`,
		`forall (P($a : x) ; Q()) eval($a == 1)`, `forall (P() ; Q($a : x)) eval($a == 1)`, `forall (P(x == $a) ; Q($a : x))`, `forall (eval($a == 1) ; P($a : x))`, `forall (not (P($a : x)) ; Q(x == $a))`, `forall (P() ; Q($a : x) not (eval($b == 1)))`, `forall (P($p : x) ; $p : P())`,
	} {
		bad(t, s)
	}
}

// P7.1, rule 3: a query may not have an acc or a forall, at whatever level.
func TestKindsInQueries(t *testing.T) {
	for _, s := range []string{`acc($s : count(1) over P())`, `forall (P() ; Q())`} {
		fine(t, s)
		for _, c := range append(append(around(s), accAround(s)...), ruleAround(s)...) {
			breaks(t, query(c), "q")
		}
	}
}
