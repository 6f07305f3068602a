package check_test

import "testing"

// P7.1, rule 4: actions.
func TestActions(t *testing.T) {
	for _, s := range []string{
		``, `insert P {};`, `insert Q { x = $a, y = $p, z = [$p.x, -$a] };`, `logical R { p = $p };`, `logical Q { z = $a, x = 1 };`, `insert P { x = 1 }; insert P { x = 2 };`,
		`update $p { foo = 1, x = $a };`, `update 1 { x = $p.y.z };`, `update $a { x = 1 }; update $a { x = 1 };`, `delete $p;`, `delete 1; delete 1;`, `print $a; print $p.foo + 1;`, `focus "x"; focus ""; halt; halt;`, `print has([$a], size("a"));`,
	} {
		keeps(t, then(s))
	}
	for _, s := range []string{
		`insert S {};`, `logical S {};`, `insert p { x = 1 };`, `insert P { z = 1 };`, `logical R { x = 1 };`, `insert Q { x = 1, p = 1 };`,
		`insert P { x = 1, x = 1 };`, `logical P { x = 1, y = 2, x = 2 };`, `update $p { foo = 1, foo = 1 };`, `update $p { x = 1, y = 1, x = 2 };`,
		`insert P { x = $b };`, `insert P { x = x };`, `insert P { y = [x] };`, `logical P { x = 1, y = $n };`, `logical R { p = p };`, `update $q { x = 1 };`, `update x { x = 1 };`, `update $p.x { x = $n };`, `update $p { x = x };`, `update $p { x = 1, y = $b.x };`,
		`delete $b;`, `delete p;`, `delete $n;`, `print $n;`, `print x;`, `print 1 + $b;`, `print [$a, -x];`, `print $a; print $b;`, `halt; insert P { x = 1, x = 2 };`,
	} {
		breaks(t, then(s), "r")
	}
}

// P7.1, rule 4: what is there behind all conditions is there in actions, and nothing else.
func TestThereInActions(t *testing.T) {
	for _, s := range []string{`P($x : x)`, `$x : P()`, `$x from [1]`, `?two($x ?, 1)`, `acc($x : count(1) over P())`, `(P($x : x) or $x from [1])`, `(P($x : x) or ($x : P() or Q() R($x : p)))`, `P($x : x) not (P())`, `P($x : x) (P($x : y) or Q())`} {
		keeps(t, `rule "r" when `+s+` then print $x; end`+two)
		keeps(t, `rule "r" when `+s+` P() then insert P { x = $x }; end`+two)
	}
	for _, s := range []string{``, `P()`, `not (P($x : x))`, `exists ($x : P())`, `forall (P($x : x) ; Q($x : x))`, `acc($o : count($x) over P($x : x))`, `(P($x : x) or Q())`, `(P($x : x) or (Q() or P($x : x)))`, `(P() or not (P($x : x)))`} {
		breaks(t, `rule "r" when `+s+` then print $x; end`+two, "r")
		breaks(t, `rule "r" when `+s+` P() then insert P { x = $x }; end`+two, "r")
	}
	breaks(t, `rule "a" when P($x : x) then end rule "b" when P() then print $x; end`, "b")
}
