package check_test

import (
	"fmt"
	"maps"
	"math/rand"
	"slices"
	"testing"

	"proctor/api"
)

// maker makes bases by chance that keep most rules; of a hundred choices so many are made without care, and so many variables are there to be chosen from.
type maker struct {
	*rand.Rand
	careless  int
	variables int
	queries   map[string]int // how many parameters
	asks      []string       // those that may be asked
}

func (m *maker) slips() bool { return m.Intn(100) < m.careless }

func (m *maker) pick(l ...string) string { return l[m.Intn(len(l))] }

func (m *maker) variable() string { return fmt.Sprint("v", m.Intn(m.variables)) }

// among tells one of some names, or, without care, one of others.
func (m *maker) among(l []string, others ...string) string {
	if len(l) == 0 || m.slips() {
		return m.pick(others...)
	}
	return m.pick(l...)
}

// fresh tells a variable that is not there, if there is one.
func (m *maker) fresh(there []string) string {
	for range 20 {
		if v := m.variable(); m.slips() || !slices.Contains(there, v) {
			return v
		}
	}
	return "z"
}

func (m *maker) fields(class string) []string {
	switch class {
	case "P":
		return []string{"x", "y"}
	case "Q":
		return []string{"x", "y", "z"}
	}
	return []string{"p"}
}

func (m *maker) expr(there, fields []string, deep int) api.Expr {
	if deep > 0 && m.Intn(2) == 0 {
		return api.Expr{Op: api.EEq + m.Intn(api.EMod-api.EEq), Args: []api.Expr{m.expr(there, fields, deep-1), m.expr(there, fields, deep-1)}}
	}
	switch k := m.Intn(4); {
	case k == 0 && (len(fields) > 0 || m.slips()):
		return api.Expr{Op: api.EField, Text: m.among(fields, "x", "z", "w")}
	case k == 1 && (len(there) > 0 || m.slips()):
		return api.Expr{Op: api.EVar, Text: m.among(there, "v0", "v1", "v2", "v3")}
	case k == 2 && len(there) > 0:
		return api.Expr{Op: api.EGet, Text: m.pick("x", "w"), Args: []api.Expr{{Op: api.EVar, Text: m.among(there, "v0", "v1")}}}
	}
	return api.Expr{Op: api.ELit, V: api.Value{Kind: api.VInt, Int: int64(m.Intn(3))}}
}

// list makes conditions, and tells what is there behind them.
func (m *maker) list(there []string, deep int, kinds []int) ([]api.Cond, []string) {
	var l []api.Cond
	for range 1 + m.Intn(3) {
		var c api.Cond
		c, there = m.cond(there, deep, kinds)
		l = append(l, c)
	}
	return l, there
}

func (m *maker) cond(there []string, deep int, kinds []int) (api.Cond, []string) {
	there = slices.Clip(there)
	c := api.Cond{Kind: kinds[m.Intn(len(kinds))]}
	if deep == 0 && c.Kind != api.CFrom && c.Kind != api.CEval && c.Kind != api.CQuery || c.Kind == api.CQuery && len(m.asks) == 0 {
		c.Kind = api.CFact
	}
	plain := slices.DeleteFunc(slices.Clone(kinds), func(k int) bool { return k == api.COr && !m.slips() })
	var behind []string
	switch c.Kind {
	case api.CFact:
		return m.pattern(there)
	case api.CFrom:
		c.Var, c.E = m.variable(), m.expr(there, nil, 1)
		return c, append(there, c.Var)
	case api.CEval:
		c.E = m.expr(there, nil, 2)
	case api.CNot, api.CExists:
		c.Conds, _ = m.list(there, deep-1, kinds)
	case api.CForall:
		c.Conds, behind = m.list(there, deep-1, kinds)
		c.Then, _ = m.list(behind, deep-1, kinds)
	case api.CAcc:
		c.Fn = m.among([]string{"count", "sum", "min", "max", "list"}, "avg")
		c.Conds, behind = m.list(there, deep-1, plain)
		c.E = m.expr(behind, nil, 1)
		c.Var = m.fresh(slices.AppendSeq(slices.Clone(there), maps.Keys(some(c.Conds))))
		return c, append(there, c.Var)
	case api.CQuery:
		return m.question(there)
	case api.COr:
		return m.or(there, deep, kinds)
	}
	return c, there
}

func (m *maker) pattern(there []string) (api.Cond, []string) {
	c := api.Cond{Kind: api.CFact, Class: m.pick("P", "Q", "R")}
	if m.slips() {
		c.Class = m.pick("S", "P", "Q", "R")
	}
	fields := m.fields(c.Class)
	before := there
	for range m.Intn(3) {
		b := api.Bind{Var: m.variable(), Field: m.among(fields, "x", "z", "p")}
		c.Binds = append(c.Binds, b)
		there = append(there, b.Var)
	}
	if m.Intn(3) == 0 {
		c.Var = m.fresh(there)
		there = append(there, c.Var)
	}
	if m.slips() {
		there = before
	}
	for range m.Intn(2) {
		c.Tests = append(c.Tests, m.expr(there, fields, 1))
	}
	return c, there
}

func (m *maker) question(there []string) (api.Cond, []string) {
	c := api.Cond{Kind: api.CQuery, Name: m.among(m.asks, "q", "s", "t", "u")}
	before := there
	n := m.queries[c.Name]
	if m.slips() {
		n = m.Intn(3)
	}
	for range n {
		if m.Intn(2) == 0 {
			v := m.variable()
			c.Args, there = append(c.Args, api.Arg{Var: v}), append(there, v)
		} else {
			c.Args = append(c.Args, api.Arg{E: m.expr(before, nil, 1)})
		}
	}
	return c, there
}

func (m *maker) or(there []string, deep int, kinds []int) (api.Cond, []string) {
	c := api.Cond{Kind: api.COr}
	var all []string
	for i := range 2 + m.Intn(2) {
		alt, behind := m.list(there, deep-1, kinds)
		if i > 0 { // so that they give the same more often
			v := m.variable()
			if len(all) > len(there) {
				v = all[len(all)-1]
			}
			alt, behind = append(alt, api.Cond{Kind: api.CFrom, Var: v, E: m.expr(behind, nil, 0)}), append(behind, v)
			all = slices.DeleteFunc(all, func(v string) bool { return !slices.Contains(behind, v) })
		} else {
			all = slices.Clone(behind)
		}
		c.Alts = append(c.Alts, alt)
	}
	return c, all
}

func (m *maker) action(there []string) api.Action {
	a := api.Action{Kind: api.AInsert + m.Intn(api.AHalt)}
	switch a.Kind {
	case api.AInsert, api.ALogical, api.AUpdate:
		fields := m.fields(m.pick("P", "Q"))
		if a.Kind == api.AUpdate {
			a.E = m.expr(there, nil, 1)
		} else {
			a.Class = m.among([]string{"Q"}, "P", "R", "S")
		}
		for _, f := range fields {
			a.Set = append(a.Set, api.Assign{Field: m.among([]string{f}, "x", "y", "z", "p"), E: m.expr(there, nil, 1)})
		}
	case api.ADelete, api.APrint:
		a.E = m.expr(there, nil, 2)
	}
	return a
}

func (m *maker) base(t *testing.T) api.Base {
	b := read(t, classes)
	names := []string{"q", "s", "t"}
	m.queries, m.asks = map[string]int{"q": m.Intn(3), "s": m.Intn(3), "t": m.Intn(3)}, names
	for i := range 1 + m.Intn(3) {
		l, there := m.list(nil, 1+m.Intn(3), []int{api.CFact, api.CFact, api.CFact, api.CNot, api.CExists, api.CForall, api.COr, api.COr, api.CFrom, api.CAcc, api.CEval, api.CQuery})
		r := api.Rule{Name: m.among([]string{string(rune('0' + i))}, "0", "1", "2"), When: l}
		for range m.Intn(3) {
			r.Then = append(r.Then, m.action(there))
		}
		b.Rules = append(b.Rules, r)
	}
	kinds := []int{api.CFact, api.CFact, api.CNot, api.CExists, api.COr, api.CFrom, api.CEval, api.CQuery}
	if m.slips() {
		kinds = append(kinds, api.CForall, api.CAcc)
	}
	for i, name := range names {
		if m.slips() {
			name = m.pick(names...)
		}
		if m.asks = names; m.Intn(3) > 0 { // so that fewer hang on themselves
			m.asks = names[i+1:]
		}
		l, there := m.list(nil, 1+m.Intn(2), kinds)
		q := api.Query{Name: name, When: l}
		for range m.queries[name] {
			v := m.among(there, "v0", "v1", "v2", "v3")
			if slices.Contains(q.Params, v) && !m.slips() {
				v = m.fresh(append(q.Params, there...))
				q.When = append(q.When, api.Cond{Kind: api.CFrom, Var: v, E: m.expr(there, nil, 1)})
			}
			q.Params = append(q.Params, v)
		}
		b.Queries = append(b.Queries, q)
	}
	return b
}

// P7.1: what Check says of bases by chance is what the rules say, asked one by one.
func TestChance(t *testing.T) {
	m := &maker{Rand: rand.New(rand.NewSource(7))}
	seen := [7]int{}
	for range 15000 {
		m.careless, m.variables = m.Intn(3), []int{4, 8, 30, 1000}[m.Intn(4)]
		b := m.base(t)
		where, err, rule := verdict(b)
		tells(t, written(t, b), b, where, err)
		seen[rule]++
	}
	for rule, least := range []int{1500, 0, 200, 1000, 100, 500, 0} { // 0: those that keep all
		if seen[rule] < least {
			t.Errorf("rule %d: %d bases: %v", rule, seen[rule], seen)
		}
	}
	t.Log(seen)
}
