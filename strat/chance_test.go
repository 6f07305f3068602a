package strat_test

import (
	"fmt"
	"math/rand"
	"reflect"
	"strings"
	"testing"

	"proctor/api"
	"proctor/check"
	"proctor/strat"
)

// maker writes rule files by chance: of so many classes and queries; of a hundred lists so many stand within others; uphill, if what a rule makes stands behind what it asks for, in the table, so that there are fewer rings.
type maker struct {
	*rand.Rand
	classes int
	queries int
	nested  int
	uphill  bool
	top     int // the first class that conditions don't name
	vars    int
}

func newMaker(seed int64) *maker { return &maker{Rand: rand.New(rand.NewSource(seed))} }

// next sets out for another file.
func (m *maker) next() *maker {
	m.classes, m.queries, m.nested, m.uphill = 1+m.Intn(12), m.Intn(4), 10+m.Intn(50), m.Intn(2) == 0
	m.top = m.classes
	return m
}

// list writes conditions that may ask the queries from one on; those of a rule may be of all kinds.
func (m *maker) list(deep, from int, rule, or bool) string {
	var l []string
	for range 1 + m.Intn(2) {
		l = append(l, m.cond(deep, from, rule, or))
	}
	return strings.Join(l, " ")
}

func (m *maker) cond(deep, from int, rule, or bool) string {
	if deep == 0 || m.Intn(100) >= m.nested {
		if from < m.queries && m.Intn(2) == 0 {
			return fmt.Sprintf("?q%d()", from+m.Intn(m.queries-from))
		}
		return fmt.Sprintf("K%d()", m.Intn(m.top))
	}
	inner := func() string { return m.list(deep-1, from, rule, or) }
	switch k := m.Intn(6); {
	case k == 0:
		return "not (" + inner() + ")"
	case k == 1:
		return "exists (" + inner() + ")"
	case k == 2 && rule:
		return "forall (" + inner() + " ; " + inner() + ")"
	case k == 3 && rule:
		m.vars++
		return fmt.Sprintf("acc($v%d : count(1) over %s)", m.vars, m.list(deep-1, from, rule, false))
	case k < 5 && or:
		return "(" + inner() + " or " + inner() + ")"
	}
	return "eval(true)"
}

func (m *maker) file() string {
	s := ""
	for i := range m.classes {
		s += fmt.Sprint("class K", i)
		if i > 0 && m.Intn(4) == 0 && (!m.uphill || m.Intn(4) == 0) {
			s += fmt.Sprint(" extends K", m.Intn(i))
		}
		s += " {} "
	}
	if m.uphill {
		m.top = 1 + m.classes/4
	}
	for i := range m.queries {
		from := i + 1
		if m.Intn(4) == 0 { // it may come to hang on itself
			from = m.Intn(i + 1)
		}
		s += fmt.Sprintf("query q%d() %s end ", i, m.list(2, from, false, true))
	}
	for i := range m.Intn(m.classes + 6) {
		to, least := "", 0
		if m.uphill {
			least = m.Intn(m.classes)
			m.top = max(1, least-m.Intn(2))
		}
		for range m.Intn(3) {
			to += fmt.Sprintf("K%d ", least+m.Intn(m.classes-least))
		}
		s += fmt.Sprintf(`rule "%d" when %s then %send `, i, m.list(2, 0, true, true), logicals(to))
	}
	return s
}

// P8.1, P8.2: what is told of files by chance is what the chapter's words say.
func TestChance(t *testing.T) {
	m := newMaker(8)
	seen := map[string]int{}
	for range 12000 {
		s := m.next().file()
		b := read(t, s)
		if _, err := check.Check(b); err != api.OK {
			barred(t, s, b, err)
			seen["barred"]++
			continue
		}
		l := modelEdges(b)
		g := modelGraph(b, l)
		if g.ring() {
			tells(t, s, b, arrows(l), "", api.ErrStrata)
			seen["ring"]++
			continue
		}
		strata := g.strata()
		tells(t, s, b, arrows(l), lists(strata), api.OK)
		seen[fmt.Sprint("strata ", len(strata))]++
	}
	for what, least := range map[string]int{"barred": 200, "ring": 1000, "strata 1": 1000, "strata 2": 1000, "strata 3": 200, "strata 4": 20} {
		if seen[what] < least {
			t.Errorf("%s: %d files: %v", what, seen[what], seen)
		}
	}
	t.Log(seen)
}

// P8.3: a class hangs by a Not edge on smaller strata alone, by another one on none that is greater.
func TestFollows(t *testing.T) {
	m := newMaker(83)
	nots := 0
	for range 6000 {
		s := m.next().file()
		b := read(t, s)
		lists, err := strat.Strata(b)
		if err != api.OK {
			continue
		}
		at := map[string]int{}
		for i, names := range lists {
			for _, name := range names {
				at[name] = i
			}
			if len(names) == 0 {
				t.Errorf("%s: %v", s, lists)
			}
		}
		l, _ := strat.Edges(b)
		for _, e := range l {
			for i, c := range b.Classes {
				if !below(b.Classes, i, e.From) {
					continue
				}
				if at[c.Name] > at[e.To] || e.Not && at[c.Name] == at[e.To] {
					t.Errorf("%s: %v against %v", s, lists, e)
				}
				if e.Not {
					nots++
				}
			}
		}
	}
	if nots < 1000 {
		t.Errorf("%d Not edges", nots)
	}
}

// below tells whether a class, told by its number, is one of a name or extends one.
func below(l []api.Class, i int, name string) bool {
	for at := l[i].Name; at != ""; {
		if at == name {
			return true
		}
		for _, c := range l {
			if c.Name == at {
				at = c.Super
				break
			}
		}
	}
	return false
}

// P8.2: a file's answer hangs not on the order of its rules and queries.
func TestAnyOrder(t *testing.T) {
	m := newMaker(84)
	for range 1000 {
		b := read(t, m.next().file())
		edges, edgesErr := strat.Edges(b)
		strata, err := strat.Strata(b)
		m.Shuffle(len(b.Rules), reflect.Swapper(b.Rules))
		m.Shuffle(len(b.Queries), reflect.Swapper(b.Queries))
		if edgesErr == api.OK {
			tells(t, "in another order", b, arrows(edges), lists(strata), err)
		} else {
			barred(t, "in another order", b, edgesErr)
		}
	}
}
