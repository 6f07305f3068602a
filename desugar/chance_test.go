package desugar_test

import (
	"fmt"
	"math/rand"
	"testing"

	"proctor/api"
	"proctor/check"
	"proctor/desugar"
)

// maker makes conditions by chance: of so many to a list at most, of some kinds, about so many in all; by hand: also such as may not be written.
type maker struct {
	*rand.Rand
	most  int
	left  int
	kinds []int
	hand  bool
}

func (m *maker) list(deep int) []api.Cond {
	var l []api.Cond
	n := 1 + m.Intn(m.most)
	if m.hand {
		n = m.Intn(m.most + 1)
	}
	for range n {
		l = append(l, m.cond(deep))
	}
	return l
}

func (m *maker) cond(deep int) api.Cond {
	c := api.Cond{Kind: m.kinds[m.Intn(len(m.kinds))]}
	m.left--
	if deep == 0 || m.left < 0 || m.Intn(4) == 0 {
		return fact(string(rune('A' + m.Intn(26))))
	}
	switch c.Kind {
	case api.CNot, api.CExists:
		c.Conds = m.list(deep - 1)
	case api.CAcc:
		c.Fn, c.Conds = "count", m.over(deep-1)
	case api.CForall:
		c.Conds, c.Then = m.list(deep-1), m.list(deep-1)
	case api.COr:
		for range m.alternatives() {
			c.Alts = append(c.Alts, m.list(deep-1))
		}
	}
	return c
}

// over makes what an acc goes over: choices at its own level are rare, since one suffices to refuse all.
func (m *maker) over(deep int) []api.Cond {
	l := m.list(deep)
	for i, c := range l {
		if c.Kind == api.COr && m.Intn(4) > 0 {
			l[i] = fact("P")
		}
	}
	return l
}

func (m *maker) alternatives() int {
	if m.hand {
		return m.Intn(4)
	}
	return 2 + m.Intn(2)
}

// wide makes a choice among 18 to 27.
func (m *maker) wide() []api.Cond {
	c := or()
	for range 18 + m.Intn(10) {
		c.Alts = append(c.Alts, list(m.cond(0)))
	}
	return list(c)
}

func newMaker(seed int64) *maker { return &maker{Rand: rand.New(rand.NewSource(seed))} }

// next sets out for other conditions.
func (m *maker) next() *maker {
	m.most, m.left = 1+m.Intn(7), 1<<m.Intn(7)
	m.kinds = [][]int{{api.COr}, {api.CFact, api.COr}, {api.CNot, api.COr, api.COr}, {api.CNot, api.CExists, api.CForall, api.COr}, {api.CExists, api.COr, api.CFact}, {api.CAcc, api.COr, api.CNot, api.CForall}, {api.CForall, api.CFact, api.COr}}[m.Intn(7)]
	return m
}

// enough asks that each outcome came so often.
func enough(t *testing.T, seen map[string]int, least int, outcomes ...string) {
	t.Helper()
	for _, o := range outcomes {
		if seen[o] < least {
			t.Errorf("%s: %d of %v", o, seen[o], seen)
		}
	}
}

// P9.1, P9.3, P9.4: what is told is what the model makes, of conditions that may be written and of others; a core of a core is itself.
func TestByChance(t *testing.T) {
	m := newMaker(9)
	seen := map[string]int{}
	for i := range 6000 {
		m.next().hand = i%2 == 0
		l := m.list(1 + m.Intn(4))
		if i%100 < 2 {
			m.left = 40
			l = nested(27+m.Intn(4), func(inner []api.Cond) api.Cond { return within(api.CNot, append(inner, m.list(2)...)...) })
		}
		if i%100 > 97 {
			l = append(m.wide(), m.wide()...)
		}
		want, outcome := modelled(l)
		seen[outcome]++
		alts, err := desugar.Conds(l)
		if outcome == tooFar && m.hand { // of what stands beside an or without alternatives nothing is made
			continue
		}
		if (outcome == fine) != (err == api.OK) || outcome != fine && (err != api.ErrArg || alts != nil) || !same(alts, want) {
			t.Fatalf("%s: %s, %d instead of %s (%s)", short(l), shorts(alts), err, shorts(want), outcome)
		}
		if desugar.Core(l) == has(l, api.CForall, api.COr) {
			t.Fatalf("%s: %t", short(l), desugar.Core(l))
		}
		if len(alts) > 1 {
			seen["choices"]++
		}
		for _, alt := range alts {
			again, err := desugar.Conds(alt)
			if deep := depth(alt) > api.MaxDeep; !desugar.Core(alt) || deep != (err != api.OK) || !deep && (len(again) != 1 || !same(again[0], alt)) {
				t.Fatalf("%s: of %s %s, %d", short(l), short(alt), shorts(again), err)
			}
		}
	}
	enough(t, seen, 10, fine, tooMany, tooGreat, tooDeep, tooFar, several, "choices")
}

// P9.2: there are cores where check says so, and they are those of the rules, one by one.
func TestCoresByChance(t *testing.T) {
	m := newMaker(10)
	seen := map[string]int{}
	for range 1500 {
		b := api.Base{Classes: read(t, `class A {}`).Classes}
		var want []api.Core
		for rule := range m.Intn(6) {
			l := everyA(m.next().list(1 + m.Intn(4)))
			b.Rules = append(b.Rules, api.Rule{Name: fmt.Sprint(rule), When: l})
			alts, _ := modelled(l)
			for alt, when := range alts {
				want = append(want, api.Core{Rule: rule, Alt: alt, When: when})
			}
		}
		got, err := desugar.Cores(b)
		if _, its := check.Check(b); err != its || err == api.OK && !same(got, want) || err != api.OK && got != nil {
			t.Fatalf("%v: %s, %d (check %d) instead of %s", b.Rules, cores(got), err, its, cores(want))
		}
		seen[fmt.Sprint(err)]++
		if err == api.OK && len(want) > len(b.Rules) {
			seen["several"]++
		}
	}
	enough(t, seen, 150, fmt.Sprint(api.OK), fmt.Sprint(api.ErrScope), "several")
}

// everyA names one class in all patterns; what an acc gives is named by its place.
func everyA(l []api.Cond) []api.Cond {
	l = copyOf(l)
	n := 0
	var name func(l []api.Cond)
	name = func(l []api.Cond) {
		for i := range l {
			switch c := &l[i]; c.Kind {
			case api.CFact:
				c.Class = "A"
			case api.CAcc:
				n++
				c.Var, c.E = fmt.Sprint("v", n), api.Expr{Op: api.ELit, V: api.Value{Kind: api.VInt, Int: 1}}
			}
			name(l[i].Conds)
			name(l[i].Then)
			for _, alt := range l[i].Alts {
				name(alt)
			}
		}
	}
	name(l)
	return l
}
