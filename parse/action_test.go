package parse_test

import (
	"testing"

	"proctor/api"
)

// P5.1: insert and logical: a class and what is set, or nothing.
func TestInsertions(t *testing.T) {
	for word, kind := range map[string]int{"insert": api.AInsert, "logical": api.ALogical} {
		readsActions(t, word+" A {};", api.Action{Kind: kind, Class: "A"})
		readsActions(t, word+" A{x=1};"+word+" B { y = $x == 1 , x = z , y = [] } ;",
			api.Action{Kind: kind, Class: "A", Set: []api.Assign{{Field: "x", E: num(1)}}},
			api.Action{Kind: kind, Class: "B", Set: []api.Assign{{Field: "y", E: op(api.EEq, variable("x"), num(1))}, {Field: "x", E: field("z")}, {Field: "y", E: list()}}})
		for _, s := range []string{
			"^", " ^{}", " ^1 {};", " ^$a {};", ` ^"A" {};`, " ^text {};", " A^", " A^;", " A ^()", " A ^B {}", " A {^", " A {^, }", " A {^;", " A {^1};", " A {x^", " A {x^};", " A {x^, y};", " A {x ^1};", " A {x ^: 1};", " A {x ^== 1};", " A {^$x = 1};", " A {^int = 1};", " A {x =^", " A {x = ^};", " A {x = ^, y = 1};", " A {x = 1^", " A {x = 1,^", " A {x = 1, ^};", " A {x = 1 ^y = 2};", " A {x = 1^;", " A {x = 1 ^= 2};", " A {}^", " A {} ^end", " A {} ^{};", " A {x^.y = 1};", " A {x = 1^) };",
		} {
			barredHere(t, `rule "r" when then `+word+s)
		}
	}
}

// P5.1: update sets one field or more.
func TestUpdate(t *testing.T) {
	readsActions(t, "update $p { x = 1 };", api.Action{Kind: api.AUpdate, E: variable("p"), Set: []api.Assign{{Field: "x", E: num(1)}}})
	readsActions(t, "update $p.q + 1 { x = 1, y = 2, x = 3 };", api.Action{Kind: api.AUpdate, E: op(api.EAdd, get(variable("p"), "q"), num(1)), Set: []api.Assign{{Field: "x", E: num(1)}, {Field: "y", E: num(2)}, {Field: "x", E: num(3)}}})
	for _, s := range []string{"^", " ^{ x = 1 };", " ^;", " $p^", " $p^;", " $p ^x = 1", " $p ^$q { x = 1 };", " $p {^};", " $p {^", " $p {x^};", " $p {x = 1, ^};", " $p {x = 1}^", " $p {x = 1} ^end", " $p^, { x = 1 };", " P ^P { x = 1 };", " $p {^, x = 1};"} {
		barredHere(t, `rule "r" when then update`+s)
	}
}

// P5.1: delete, print, focus, halt.
func TestOtherActions(t *testing.T) {
	readsActions(t, "delete $p;", api.Action{Kind: api.ADelete, E: variable("p")})
	readsActions(t, "delete a || b;", api.Action{Kind: api.ADelete, E: op(api.EOr, field("a"), field("b"))})
	readsActions(t, `print "x";`, api.Action{Kind: api.APrint, E: str("x")})
	readsActions(t, "print [] + -1;", api.Action{Kind: api.APrint, E: op(api.EAdd, list(), op(api.ENeg, num(1)))})
	readsActions(t, `focus "g";`, api.Action{Kind: api.AFocus, Text: "g"})
	readsActions(t, `focus "";`, api.Action{Kind: api.AFocus})
	readsActions(t, "halt;", api.Action{Kind: api.AHalt})
	readsActions(t, `halt; print 1; halt; focus "a"; delete 2;`, api.Action{Kind: api.AHalt}, api.Action{Kind: api.APrint, E: num(1)}, api.Action{Kind: api.AHalt}, api.Action{Kind: api.AFocus, Text: "a"}, api.Action{Kind: api.ADelete, E: num(2)})
	for _, s := range []string{
		"delete^", "delete ^;", "delete ^end", "delete $p^", "delete $p ^end", "delete $p ^$q;", "delete $p^, $q;", "delete $p ^{};",
		"print^", "print ^;", "print ^end", "print 1^", "print 1 ^end", "print 1^, 2;", "print (1^;", "print ^print 1;", "print $x ^: y;", "print $x ^?;",
		"focus^", "focus ^;", "focus ^g;", "focus ^$g;", "focus ^1;", `focus "g"^`, `focus "g" ^end`, `focus "g" ^+ "h";`, `focus ^("g");`,
		"halt^", "halt ^end", "halt ^1;", "halt^();", "halt;^; end", "halt ^halt;",
		"^1;", "^$p;", "^foo;", `^"halt";`, "^$halt;", "^class", "^not (P())", "^P();", "^{};", "^,", "^true;", "^salience 1", "^when", "^insertt P {};",
	} {
		barredHere(t, `rule "r" when then `+s)
	}
}
