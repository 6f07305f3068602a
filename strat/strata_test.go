package strat_test

import (
	"fmt"
	"slices"
	"strings"
	"testing"

	"proctor/api"
	"proctor/strat"
)

// P8.2: the chapter's example.
func TestExample(t *testing.T) {
	rings(t, rules("not (B())", "A", "A()", "B"), "A>B B!A")
	fine(t, rules("B()", "A", "A()", "B"), "A>B B>A", "A B C D E")
	tells(t, "the example", read(t, `class A {} class B {} `+rules("B()", "A", "A()", "B")), "A>B B>A", "A B", api.OK)
}

// P8.2: rings with a Not edge in them.
func TestRings(t *testing.T) {
	for s, edges := range map[string]string{
		rules("not (A())", "A"):                                       "A!A",
		rules("A() exists (A())", "A"):                                "A>A A!A",
		rules("forall (D() ; A())", "A"):                              "A!A D!A",
		rules("acc($n : count(1) over A())", "A"):                     "A!A",
		rules("A()", "B", "exists (B())", "A"):                        "A>B B!A",
		rules("not (A())", "B", "not (B())", "A"):                     "A!B B!A",
		rules("A()", "B", "B()", "D", "not (D())", "A"):               "A>B B>D D!A",
		rules("A()", "B", "not (B())", "D", "D()", "A"):               "A>B B!D D>A",
		rules("not (A())", "B", "B()", "D", "D()", "A"):               "A!B B>D D>A",
		rules("A()", "B", "B()", "D", "not (D())", "B"):               "A>B B>D D!B",
		rules("not (A())", "B", "B()", "A", "A()", "E"):               "A!B A>E B>A",
		rules("A()", "B", "B()", "A", "not (B())", "D", "D()", "B"):   "A>B B>A B!D D>B",
		rules("A() not (A())", "B", "B()", "A"):                       "A>B A!B B>A",
		rules("A() not (B())", "D", "D()", "E", "E()", "B"):           "A>D B!D D>E E>B",
		rules("not (A())", "B", "not (A())", "D E", "D() E()", "A"):   "A!B A!D A!E D>A E>A",
		rules("not (?plain())", "B", "B()", "A") + asked:              "A!B B>A",
		rules("?none()", "A") + asked:                                 "A!A",
		rules("?further()", "A") + asked:                              "A!A B>A D>A",
		rules("not (A())", "B", "B()", "D", "?none()", "A") + asked:   "A!A A!B B>D",
		rules("(D() or not (A()))", "B", "(B() or E())", "A") + asked: "A!B B>A D>B E>A",
	} {
		rings(t, s, edges)
	}
}

// P8.2: an edge holds from the classes below its own, and to its own alone. (C is below B.)
func TestBelow(t *testing.T) {
	rings(t, rules("not (B())", "A", "A()", "C"), "A>C B!A")
	rings(t, rules("not (B())", "C"), "B!C")
	rings(t, rules("not (B())", "B"), "B!B")
	rings(t, rules("B()", "C", "not (B())", "C"), "B>C B!C")
	rings(t, rules("C()", "B", "not (B())", "C"), "B!C C>B")
	rings(t, rules("not (C())", "A", "A()", "C"), "A>C C!A")
	fine(t, rules("not (C())", "A", "A()", "B"), "A>B C!A", "C D E | A B")
	fine(t, rules("not (C())", "B"), "C!B", "A C D E | B")
	fine(t, rules("not (C())", "B", "B()", "A"), "B>A C!B", "C D E | A B")
	fine(t, rules("C()", "B", "B()", "C"), "B>C C>B", "A B C D E")
	fine(t, rules("not (A())", "C", "B()", "D"), "A!C B>D", "A B E | C D")
	fine(t, rules("not (A())", "B", "C()", "D"), "A!B C>D", "A C D E | B")
	fine(t, rules("not (A())", "C", "not (B())", "D", "not (D())", "E"), "A!C B!D D!E", "A B | C | D | E")
	rings(t, rules("B()", "C", "not (C())", "B"), "B>C C!B")
}

// P8.2: classes that are more than one below another one.
func TestTree(t *testing.T) {
	const tree = `class T {} class U extends T {} class V extends U {} class W extends T {} class X {} `
	for s, strata := range map[string]string{
		rules("not (T())", "X", "X()", "V"):         "",
		rules("not (U())", "X", "X()", "V"):         "",
		rules("not (V())", "X", "X()", "V"):         "",
		rules("not (T())", "X", "X()", "W"):         "",
		rules("not (X())", "V", "T()", "X"):         "",
		rules("not (X())", "V", "not (T())", "W"):   "",
		rules("not (W())", "X", "X()", "V"):         "T U W | V X",
		rules("not (V())", "X", "X()", "U T W"):     "V | T U W X",
		rules("not (U())", "X", "X()", "T W"):       "U V | T W X",
		rules("not (X())", "V", "T()", "U"):         "T W X | U V",
		rules("not (X())", "V", "not (U())", "W"):   "T U X | V | W",
		rules("not (X())", "V", "not (U())", "T"):   "U W X | V | T",
		rules("not (X())", "W", "not (T())", "X"):   "",
		rules("not (X())", "T U", "not (V())", "W"): "V X | T U W",
		rules("X()", "V", "T()", "X"):               "T U V W X",
	} {
		b := read(t, tree+s)
		got, err := strat.Strata(b)
		if lists(got) != strata || err != denied(strata == "") || strat.Check(b) != err {
			t.Errorf("%s: %s, %d instead of %s", s, lists(got), err, strata)
		}
	}
}

func denied(ring bool) api.Errno {
	if ring {
		return api.ErrStrata
	}
	return api.OK
}

// P8.2: how many strata there are, and their order; none is empty.
func TestStrata(t *testing.T) {
	fine(t, "", "", "A B C D E")
	tells(t, "nothing", api.Base{}, "", "", api.OK)
	tells(t, "no class", read(t, `rule "r" when then halt; end query q() end`), "", "", api.OK)
	tells(t, "a class", read(t, `class A {}`), "", "A", api.OK)
	tells(t, "two", read(t, `class Z {} class A {}`), "", "Z A", api.OK)
	for _, c := range [][3]string{
		{rules("A()", "B"), "A>B", "A B C D E"},
		{rules("A()", "A"), "A>A", "A B C D E"},
		{rules("not (A())", "B"), "A!B", "A C D E | B"},
		{rules("not (E())", "A"), "E!A", "B C D E | A"},
		{rules("A() not (A())", "B"), "A>B A!B", "A C D E | B"},
		{rules("A()", "B D E", "B()", "A", "E()", "A"), "A>B A>D A>E B>A E>A", "A B C D E"},
		// the greatest number of Not edges holds, and goes on along plain edges
		{rules("not (A())", "D", "not (D())", "E", "not (A())", "E"), "A!D A!E D!E", "A B C | D | E"},
		{rules("not (A())", "D", "not (D())", "E", "A()", "E"), "A!D A>E D!E", "A B C | D | E"},
		{rules("not (A())", "D", "D()", "E"), "A!D D>E", "A B C | D E"},
		{rules("not (A())", "D", "D()", "E", "E()", "D"), "A!D D>E E>D", "A B C | D E"},
		{rules("not (A())", "D", "D()", "E", "not (E())", "B"), "A!D D>E E!B", "A C | D E | B"},
		{rules("A()", "D", "not (D())", "E"), "A>D D!E", "A B C D | E"},
		{rules("A()", "D", "D()", "A", "not (D())", "E"), "A>D D>A D!E", "A B C D | E"},
		// edges against the table's order
		{rules("not (E())", "D", "not (D())", "B", "not (B())", "A"), "B!A D!B E!D", "C E | D | B | A"},
		{rules("E()", "D", "D()", "B", "B()", "A", "not (C())", "E"), "B>A C!E D>B E>D", "C | A B D E"},
		{rules("not (D() E())", "B", "exists (B())", "A", "E()", "D"), "B!A D!B E!B E>D", "C D E | B | A"},
		{rules("not (?plain())", "D", "?denies()", "E") + asked, "A!D A!E B>E", "A B C | D E"},
		{rules("?none()", "D", "D()", "E", "not (?further())", "") + asked, "A!D D>E", "A B C | D E"},
	} {
		fine(t, c[0], c[1], c[2])
	}
}

func name(i int) string { return fmt.Sprintf("K%02d", i) }

// strataOf asks for the strata of rules over so many classes, or, if they are none, that a ring bars them.
func strataOf(t *testing.T, classes int, s, strata string) {
	t.Helper()
	for i := range classes {
		s += " class " + name(i) + " {}"
	}
	b := read(t, s)
	got, err := strat.Strata(b)
	if lists(got) != strata || err != denied(strata == "") || strat.Check(b) != err {
		t.Errorf("%d classes, %.500s: %s, %d instead of %s", classes, s, lists(got), err, strata)
	}
}

// P8.2: as many strata as there are classes, and rings through all of them with one Not edge, or none.
func TestMany(t *testing.T) {
	for _, n := range []int{1, 2, 3, 40, api.MaxClasses} {
		var up []string
		for i := range n {
			up = append(up, name(i))
		}
		down := slices.Clone(up)
		slices.Reverse(down)
		for _, order := range [][]string{up, down} {
			var plain, denials []string
			for i := range n - 1 {
				plain = append(plain, order[i]+"()", order[i+1])
				denials = append(denials, "not ("+order[i]+"())", order[i+1])
			}
			first, last := order[0], order[n-1]
			strataOf(t, n, rules(denials...), strings.Join(order, " | "))
			strataOf(t, n, rules(append(plain, last+"()", first)...), strings.Join(up, " "))
			strataOf(t, n, rules(append(plain, "not ("+last+"())", first)...), "")
			strataOf(t, n, rules(append(denials, "not ("+last+"())", first)...), "")
			for i := 0; i < n-1; i += 1 + n/5 {
				ring := append(slices.Clone(plain), last+"()", first)
				ring[2*i] = "exists (" + order[i] + "())"
				strataOf(t, n, rules(ring...), "")
			}
		}
	}
}
