package desugar_test

import (
	"testing"

	"proctor/api"
	"proctor/desugar"
)

// P9.1: lists that leave no choice.
func TestNoChoice(t *testing.T) {
	for s, want := range map[string]string{
		``: "", `P()`: "P", `P() Q() P()`: "P Q P", `$x from [1] eval(true) ?q(1) P()`: "6 8 9 P", `not (P())`: "!(P)", `not (P() Q()) R()`: "!(P Q) R", `exists (P() Q())`: "E(P Q)", `not (not (P()))`: "!(!(P))", `exists (exists (P()))`: "E(E(P))", `exists (not (P() exists (Q())))`: "E(!(P E(Q)))", `acc($x : sum(1) over P())`: "S(P)", `acc($x : sum(1) over P() acc($y : min(1) over Q()) R())`: "S(P S(Q) R)",
	} {
		gives(t, conds(t, s), want)
	}
}

// P9.1: choices at the list's own level, in order, the first one's slowest; both of the chapter's examples.
func TestChoices(t *testing.T) {
	for s, want := range map[string]string{
		`P() (Q() or R()) (S() or T())`: "P Q S | P Q T | P R S | P R T", `exists (P() (Q() or R()))`: "!(!(P Q) !(P R))",
		`(P() or Q())`: "P | Q", `(P() or Q() or R())`: "P | Q | R", `(P() or P())`: "P | P", `S() (P() or Q()) T()`: "S P T | S Q T", `(P() Q() or R()) S()`: "P Q S | R S", `S() T() (P() or Q() R())`: "S T P | S T Q R",
		`(P() or Q()) (R() or S()) (T() or U())`: "P R T | P R U | P S T | P S U | Q R T | Q R U | Q S T | Q S U", `(P() or Q() or R()) S() (T() or U())`: "P S T | P S U | Q S T | Q S U | R S T | R S U", `(P() or Q()) (R() or S() or T())`: "P R | P S | P T | Q R | Q S | Q T",
		`(P() or (Q() or R()))`: "P | Q | R", `((P() or Q()) or R())`: "P | Q | R", `(P() or (Q() or R()) S())`: "P | Q S | R S", `(P() or S() (Q() or R()) T()) U()`: "P U | S Q T U | S R T U", `((P() or Q()) (R() or S()) or T())`: "P R | P S | Q R | Q S | T", `((P() or Q()) or (R() or S()))`: "P | Q | R | S", `((P() or (Q() or R()) S()) T() or U()) V()`: "P T V | Q S T V | R S T V | U V",
		`((P() or Q()) R() or S()) (T() or U())`: "P R T | P R U | Q R T | Q R U | S T | S U", `(P() or Q()) (R() or (S() or T()))`: "P R | P S | P T | Q R | Q S | Q T",
	} {
		gives(t, conds(t, s), want)
	}
}

// P9.1: a not of each alternative, in its place.
func TestNot(t *testing.T) {
	for s, want := range map[string]string{
		`not ((P() or Q()))`: "!(P) !(Q)", `not ((P() or Q()) R())`: "!(P R) !(Q R)", `S() not (R() (P() or Q())) T()`: "S !(R P) !(R Q) T", `not ((P() or Q()) (R() or S()))`: "!(P R) !(P S) !(Q R) !(Q S)", `not ((P() or (Q() or R()) S()))`: "!(P) !(Q S) !(R S)",
		`not (not ((P() or Q())))`: "!(!(P) !(Q))", `not (S() not ((P() or Q()) R()) T())`: "!(S !(P R) !(Q R) T)", `not ((P() or not ((Q() or R()))))`: "!(P) !(!(Q) !(R))", `not ((not ((P() or Q())) or not (R())))`: "!(!(P) !(Q)) !(!(R))", `(not ((P() or Q())) or R())`: "!(P) !(Q) | R", `(P() or Q()) not ((R() or S()))`: "P !(R) !(S) | Q !(R) !(S)",
		`not (exists (P()))`: "!(E(P))", `not (exists ((P() or Q())))`: "!(!(!(P) !(Q)))", `not (forall (P() ; Q()))`: "!(!(P !(Q)))", `not (forall ((P() or Q()) ; R()))`: "!(!(P !(R)) !(Q !(R)))", `not (acc($x : sum(1) over P()))`: "!(S(P))",
	} {
		gives(t, conds(t, s), want)
	}
}

// P9.1: an exists of one alternative is itself, of several a not of their nots.
func TestExists(t *testing.T) {
	for s, want := range map[string]string{
		`exists ((P() or Q()))`: "!(!(P) !(Q))", `R() exists ((P() or Q())) S()`: "R !(!(P) !(Q)) S", `exists ((P() or Q() or R()) S())`: "!(!(P S) !(Q S) !(R S))", `exists (not ((P() or Q())))`: "E(!(P) !(Q))", `exists (P() not ((Q() or R())))`: "E(P !(Q) !(R))", `exists ((P() or not ((Q() or R()))))`: "!(!(P) !(!(Q) !(R)))",
		`exists (exists ((P() or Q())))`: "E(!(!(P) !(Q)))", `exists ((exists (P()) or Q()))`: "!(!(E(P)) !(Q))", `exists ((exists ((P() or Q())) or R()) S())`: "!(!(!(!(P) !(Q)) S) !(R S))", `exists (forall (P() ; Q()))`: "E(!(P !(Q)))", `exists (forall ((P() or Q()) ; R()))`: "E(!(P !(R)) !(Q !(R)))", `(exists ((P() or Q())) or exists (R()))`: "!(!(P) !(Q)) | E(R)",
	} {
		gives(t, conds(t, s), want)
	}
}

// P9.1: of each alternative of what calls for it a not, with a not of each alternative of what must hold behind it.
func TestForall(t *testing.T) {
	for s, want := range map[string]string{
		`forall (P() ; Q())`: "!(P !(Q))", `forall (P() Q() ; R() S())`: "!(P Q !(R S))", `T() forall (P() ; Q()) U()`: "T !(P !(Q)) U", `forall ((P() or Q()) ; R())`: "!(P !(R)) !(Q !(R))", `forall (P() ; (Q() or R()))`: "!(P !(Q) !(R))", `forall ((P() or Q()) ; (R() or S()) T())`: "!(P !(R T) !(S T)) !(Q !(R T) !(S T))", `forall ((P() or Q()) (R() or S()) ; (T() or (U() or V())))`: "!(P R !(T) !(U) !(V)) !(P S !(T) !(U) !(V)) !(Q R !(T) !(U) !(V)) !(Q S !(T) !(U) !(V))",
		`forall (not ((P() or Q())) ; not ((R() or S())))`: "!(!(P) !(Q) !(!(R) !(S)))", `forall (P() ; forall (Q() ; R()))`: "!(P !(!(Q !(R))))", `forall (forall (P() ; Q()) ; R())`: "!(!(P !(Q)) !(R))", `forall (P() ; forall ((Q() or R()) ; S()))`: "!(P !(!(Q !(S)) !(R !(S))))", `forall (exists ((P() or Q())) ; exists (R()))`: "!(!(!(P) !(Q)) !(E(R)))", `(forall (P() ; Q()) or R()) S()`: "!(P !(Q)) S | R S",
	} {
		gives(t, conds(t, s), want)
	}
}

// P9.1: what an acc goes over is of the core, too, and must leave no choice.
func TestAcc(t *testing.T) {
	for s, want := range map[string]string{
		`acc($x : sum(1) over not (P()))`: "S(!(P))", `acc($x : sum(1) over P() not ((Q() or R())) forall (P() ; Q()))`: "S(P !(Q) !(R) !(P !(Q)))", `acc($x : sum(1) over exists ((P() or Q())) R())`: "S(!(!(P) !(Q)) R)", `acc($x : sum(1) over exists (P()) forall ((P() or Q()) ; (R() or S())))`: "S(E(P) !(P !(R) !(S)) !(Q !(R) !(S)))", `acc($x : sum(1) over P() acc($y : sum(1) over not ((Q() or R()))))`: "S(P S(!(Q) !(R)))", `(P() or acc($x : sum(1) over Q())) R()`: "P R | S(Q) R", `not (acc($x : sum(1) over not ((P() or Q()))) (R() or S()))`: "!(S(!(P) !(Q)) R) !(S(!(P) !(Q)) S)",
	} {
		gives(t, conds(t, s), want)
	}
	for _, s := range []string{
		`acc($x : sum(1) over (P() or Q()))`, `acc($x : sum(1) over R() (P() or Q()) S())`, `acc($x : sum(1) over P() acc($y : sum(1) over (Q() or R())))`, `not (acc($x : sum(1) over (P() or Q())))`, `exists (P() acc($x : sum(1) over (P() or Q())))`, `forall (acc($x : sum(1) over (P() or Q())) ; R())`, `forall (R() ; acc($x : sum(1) over (P() or Q())))`, `(P() or acc($x : sum(1) over (P() or Q())))`, `acc($x : sum(1) over not (acc($y : sum(1) over (P() or Q()))))`, `P() Q() acc($x : sum(1) over P()) acc($y : sum(1) over (P() or P()))`, `acc($x : sum(1) over (P() or (Q() or R())))`,
	} {
		refuses(t, s, conds(t, s))
	}
}

// P9.1: conditions stand in alternatives with all that they have.
func TestWholeConditions(t *testing.T) {
	const (
		one  = `$p : P($a : x, $b : y, x + 1 == $a, z.w != "t")`
		more = `$d from [1, $a.b] eval(!has([$d], -$c)) ?two($e ?, "t", $a)`
		acc  = `acc($s : max($v * 2) over $q : P($v : x))`
	)
	for s, want := range map[string][]string{
		one + more + acc:                                      {one + more + acc},
		`(` + one + ` or ` + more + `)` + acc:                 {one + acc, more + acc},
		`not (` + one + `(` + more + ` or ` + acc + `))`:      {`not (` + one + more + `) not (` + one + acc + `)`},
		`exists (` + one + more + acc + `)`:                   {`exists (` + one + more + acc + `)`},
		`exists ((` + one + ` or ` + more + `)` + acc + `)`:   {`not (not (` + one + acc + `) not (` + more + acc + `))`},
		`forall (` + one + ` ; ` + more + `)`:                 {`not (` + one + `not (` + more + `))`},
		`acc($x : list([$p, 1]) over forall (P() ; Q()) P())`: {`acc($x : list([$p, 1]) over not (P() not (Q())) P())`},
	} {
		alts, err := desugar.Conds(conds(t, s))
		if err != api.OK || len(alts) != len(want) {
			t.Errorf("%s: %s, %d", s, shorts(alts), err)
			continue
		}
		for i := range want {
			if !same(alts[i], conds(t, want[i])) {
				t.Errorf("%s: %v instead of %s", s, alts[i], want[i])
			}
		}
	}
}
