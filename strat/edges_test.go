package strat_test

import (
	"fmt"
	"testing"

	"proctor/api"
)

// P8.1: what makes edges, and what makes none.
func TestEdges(t *testing.T) {
	for s, edges := range map[string]string{
		"":                               "",
		rules("A()", ""):                 "",
		rules("", "B"):                   "",
		rules("eval(true)", "B"):         "",
		rules("$v from [1]", "B"):        "",
		rules("A()", "B"):                "A>B",
		rules("A()", "A"):                "A>A",
		rules("A() B() A(x == 1)", "D"):  "A>D B>D",
		rules("A() B()", "D E"):          "A>D A>E B>D B>E",
		rules("A()", "D D"):              "A>D",
		rules("C()", "B"):                "C>B",
		rules("B()", "C"):                "B>C",
		rules("D()", "E", "E()", "D"):    "D>E E>D",
		rules("D()", "E", "D()", "E"):    "D>E",
		rules("D()", "E", "A()", ""):     "D>E",
		rules("D()", "", "", "A"):        "",
		rules("$a : A() not (D())", "A"): "A>A D!A",
		// the fact that an EGet reads is of no condition
		rules("$a : A($q : p, $a.p == $q.x) eval($a.p.x == 1) $v from $q.p", "E"): "A>E",
		// justified facts alone hang on others
		`rule "r" when A() not (B()) then insert D {}; end`:                                          "",
		`rule "r" when $a : A() then update $a { x = 1 }; delete $a; focus "E"; print 1; halt; end`:  "",
		`rule "r" when $a : A() then insert D {}; update $a { x = 1 }; logical E {}; delete $a; end`: "A>E",
	} {
		hangs(t, s, edges)
	}
}

// P8.1: where a pattern makes a Not edge.
func TestNotEdges(t *testing.T) {
	for conds, edges := range map[string]string{
		"not (A())":                              "A!E",
		"exists (A())":                           "A!E",
		"forall (A() ; B())":                     "A!E B!E",
		"acc($n : count(1) over A())":            "A!E",
		"acc($n : list(null) over A() D())":      "A!E D!E",
		"not (A() B()) D()":                      "A!E B!E D>E",
		"A() not (B()) D()":                      "A>E B!E D>E",
		"A() exists (B()) D()":                   "A>E B!E D>E",
		"A() forall (B() ; C()) D()":             "A>E B!E C!E D>E",
		"A() acc($n : count(1) over B()) D()":    "A>E B!E D>E",
		"not (not (A()))":                        "A!E",
		"not (exists (not (A())))":               "A!E",
		"exists (A() not (B()) D())":             "A!E B!E D!E",
		"forall (A() exists (B()) ; not (D()))":  "A!E B!E D!E",
		"acc($n : count(1) over A() not (B()))":  "A!E B!E",
		"not (acc($n : sum($v) over A($v : x)))": "A!E",
		"(A() or B())":                           "A>E B>E",
		"(A() or not (B()) or D())":              "A>E B!E D>E",
		"((A() or exists (B())) or D())":         "A>E B!E D>E",
		"not ((A() or B()) D())":                 "A!E B!E D!E",
		"exists ((A() or B()))":                  "A!E B!E",
		"forall ((A() or B()) ; (C() or D()))":   "A!E B!E C!E D!E",
		// the same edge twice is one; a Not edge and one that is none are two
		"not (A(x == 1)) not (A(x == 2))": "A!E",
		"A() A()":                         "A>E",
		"A() not (A())":                   "A>E A!E",
		"not (A()) A()":                   "A>E A!E",
		"forall (A() ; A())":              "A!E",
		"(A() or exists (A()))":           "A>E A!E",
		"E()":                             "E>E",
		"E() not (E())":                   "E>E E!E",
		"not (C()) B()":                   "B>E C!E",
		"not (B()) C()":                   "B!E C>E",
	} {
		hangs(t, rules(conds, "E"), edges)
		hangs(t, rules("", "E", conds, "E", "", "D"), edges)
		hangs(t, rules(conds, "", conds, "E"), edges)
		hangs(t, rules(conds, "", "A()", ""), "")
	}
	hangs(t, rules("A()", "E", "not (A())", "E"), "A>E A!E")
	hangs(t, rules("A()", "E", "not (A())", "D"), "A!D A>E")
	hangs(t, rules("not (A()) B()", "D E"), "A!D A!E B>D B>E")
}

// asked are queries that name classes, and ask one another.
const asked = `query plain() A() end query none() not (A()) end query some() exists (A()) end query either() (A() or B()) end query nots() (A() or not (B())) end
query asks() B() ?plain() end query denies() B() not (?plain()) end query finds() exists (B() ?plain()) end query far() ?asks() end query further() (D() or ?denies()) end query deny() not (?none()) end query empty() eval(true) end
query ring() ?ring() A() end query one() A() ?two() end query two() (B() or ?one()) not (?plain()) end query given($x) A($x : x) end `

// P8.1: edges through queries, and through queries that these ask.
func TestQueryEdges(t *testing.T) {
	for conds, edges := range map[string]string{
		"?plain()":                            "A>E",
		"?none()":                             "A!E",
		"?some()":                             "A!E",
		"?either()":                           "A>E B>E",
		"?nots()":                             "A>E B!E",
		"?asks()":                             "A>E B>E",
		"?denies()":                           "A!E B>E",
		"?finds()":                            "A!E B!E",
		"?far()":                              "A>E B>E",
		"?further()":                          "A!E B>E D>E",
		"?deny()":                             "A!E",
		"?empty()":                            "",
		"?ring()":                             "A>E",
		"?one()":                              "A>E A!E B>E",
		"?two()":                              "A>E A!E B>E",
		"?given(1)":                           "A>E",
		"?given($v ?)":                        "A>E",
		"D() ?given(1)":                       "A>E D>E",
		"not (?plain())":                      "A!E",
		"not (?far())":                        "A!E B!E",
		"not (?ring())":                       "A!E",
		"not (?one())":                        "A!E B!E",
		"not (?asks())":                       "A!E B!E",
		"exists (?plain())":                   "A!E",
		"exists (?further())":                 "A!E B!E D!E",
		"forall (?plain() ; ?either())":       "A!E B!E",
		"forall (?given(1) ; D())":            "A!E D!E",
		"forall (D() ; ?given(1))":            "A!E D!E",
		"acc($n : count(1) over ?plain())":    "A!E",
		"acc($n : count(1) over D() ?asks())": "A!E B!E D!E",
		"(D() or ?plain())":                   "A>E D>E",
		"(D() or not (?plain()))":             "A!E D>E",
		"not ((D() or ?plain()))":             "A!E D!E",
		"?plain() not (?plain())":             "A>E A!E",
		"not (?plain()) ?plain()":             "A>E A!E",
		"exists (?asks()) ?asks()":            "A>E A!E B>E B!E",
		"?plain() ?none()":                    "A>E A!E",
		"?none() ?plain()":                    "A>E A!E",
		"A() ?none()":                         "A>E A!E",
		"not (?none()) not (D())":             "A!E D!E",
		"?denies() ?asks()":                   "A>E A!E B>E",
		"?asks() ?asks()":                     "A>E B>E",
	} {
		hangs(t, rules(conds, "E")+asked, edges)
		hangs(t, asked+rules("", "A B", conds, "E"), edges)
		hangs(t, asked+rules(conds, ""), "")
	}
	hangs(t, asked, "")
	hangs(t, asked+rules("?plain()", "D", "not (?plain())", "E"), "A>D A!E")
	hangs(t, asked+rules("not (?plain())", "D", "?plain()", "E"), "A!D A>E")
	hangs(t, asked+rules("not (?asks())", "D", "?asks()", "E", "?plain()", "B"), "A>B A!D A>E B!D B>E")
	// a query may have a class's name
	hangs(t, `query A() D() end query D() B() end `+rules("?A() not (?D())", "E"), "B!E D>E")
}

// P8.1: a long way over queries, one of its steps within a not.
func TestLongWay(t *testing.T) {
	const last = 250
	for _, denying := range []int{0, 1, last / 2, last - 1, last} {
		s := ""
		for i := range last + 1 {
			conds := fmt.Sprintf("?q%d()", i+1)
			if i == last {
				conds = "A()"
			}
			if i == denying {
				conds = "not (" + conds + ")"
			}
			s += fmt.Sprintf("query q%d() %s end ", i, conds)
		}
		for _, from := range []int{0, 1, 2, last / 2, last - 1, last} {
			if from <= denying {
				fine(t, s+rules(fmt.Sprintf("?q%d()", from), "E"), "A!E", "A B C D | E")
			} else {
				fine(t, s+rules(fmt.Sprintf("?q%d()", from), "E"), "A>E", "A B C D E")
			}
		}
	}
}

// P8.1: edges are sorted by their texts, byte by byte, then by Not, and none is told twice.
func TestSorted(t *testing.T) {
	b := read(t, `class b {} class B1 {} class B {} class B_ {} class Ba {} class a {} class B10 {} class BB {} class Z {}
rule "r" when Ba() B_() BB() b() B10() B1() B() then logical a {}; end rule "s" when not (b() B()) a() Ba() then logical Z {}; logical B {}; end rule "t" when not (a()) b() B() then logical B_ {}; logical Z {}; logical b {}; logical B10 {}; end`)
	for range 20 {
		tells(t, "many names", b, "B!B B>B10 B>B_ B>Z B!Z B>a B>b B1>a B10>a BB>a B_>a Ba>B Ba>Z Ba>a a>B a!B10 a!B_ a>Z a!Z a!b b!B b>B10 b>B_ b>Z b!Z b>a b>b", "", api.ErrStrata)
	}
}
