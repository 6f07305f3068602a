package check_test

import (
	"maps"
	"slices"

	"proctor/api"
	"proctor/class"
)

// model is the rules of the chapter, each asked by itself and slowly.
type model struct {
	b api.Base
	t *class.Table
}

// verdict tells what Check must say, and by which rule.
func verdict(b api.Base) (where string, err api.Errno, rule int) {
	t, err := class.New(b.Classes)
	if err != api.OK {
		return "", err, 1
	}
	m := model{b, t}
	for i, step := range []func() (string, bool){m.names, m.scopes, m.actions, m.queries, m.counts} {
		if where, ok := step(); !ok {
			return where, api.ErrScope, i + 2
		}
	}
	return "", api.OK, 0
}

// again tells the first that stands earlier in the list, too.
func again(l []string) (string, bool) {
	for i, s := range l {
		if slices.Contains(l[:i], s) {
			return s, true
		}
	}
	return "", false
}

func (m model) names() (string, bool) {
	var rules, queries []string
	for _, r := range m.b.Rules {
		rules = append(rules, r.Name)
	}
	for _, q := range m.b.Queries {
		queries = append(queries, q.Name)
	}
	if s, is := again(rules); is {
		return s, false
	}
	if s, is := again(queries); is {
		return s, false
	}
	for _, q := range m.b.Queries {
		if _, is := again(q.Params); is {
			return q.Name, false
		}
	}
	return "", len(rules)+len(queries) <= 256
}

// flat makes lists of a list: one for each choice of alternatives, at its own level.
func flat(l []api.Cond) [][]api.Cond {
	if len(l) == 0 {
		return [][]api.Cond{nil}
	}
	var first, all [][]api.Cond
	if l[0].Kind == api.COr {
		for _, alt := range l[0].Alts {
			first = append(first, flat(alt)...)
		}
	} else {
		first = [][]api.Cond{l[:1]}
	}
	for _, rest := range flat(l[1:]) {
		for _, x := range first {
			all = append(all, slices.Concat(x, rest))
		}
	}
	return all
}

// names tells the variables that a condition gives by itself.
func names(c api.Cond) []string {
	switch c.Kind {
	case api.CFact:
		l := []string{}
		if c.Var != "" {
			l = append(l, c.Var)
		}
		for _, b := range c.Binds {
			l = append(l, b.Var)
		}
		return l
	case api.CFrom, api.CAcc:
		return []string{c.Var}
	case api.CQuery:
		l := []string{}
		for _, a := range c.Args {
			if a.E.Op == api.ENone {
				l = append(l, a.Var)
			}
		}
		return l
	}
	return nil
}

// sure tells the variables that each of a list's flat lists gives.
func sure(l []api.Cond) map[string]int {
	all := map[string]int{}
	lists := flat(l)
	for _, x := range lists {
		its := map[string]int{}
		for _, c := range x {
			for _, v := range names(c) {
				its[v] = 1
			}
		}
		for v := range its {
			all[v]++
		}
	}
	maps.DeleteFunc(all, func(_ string, n int) bool { return n < len(lists) })
	return all
}

// some tells the variables that a list gives at any level.
func some(l []api.Cond) map[string]int {
	all := map[string]int{}
	for _, c := range l {
		for _, v := range names(c) {
			all[v] = 1
		}
		for _, within := range slices.Concat([][]api.Cond{c.Conds, c.Then}, c.Alts) {
			maps.Copy(all, some(within))
		}
	}
	return all
}

// atoms tells the texts of all expressions of a kind within some.
func atoms(op int, l ...api.Expr) []string {
	var all []string
	for _, e := range l {
		if e.Op == op {
			all = append(all, e.Text)
		}
		all = append(all, atoms(op, e.Args...)...)
	}
	return all
}

// asked tells the variables for which a list's expressions ask, at any level.
func asked(l []api.Cond) []string {
	var all []string
	for _, c := range l {
		all = append(all, atoms(api.EVar, c.E)...)
		all = append(all, atoms(api.EVar, c.Tests...)...)
		for _, a := range c.Args {
			all = append(all, atoms(api.EVar, a.E)...)
		}
		for _, within := range slices.Concat([][]api.Cond{c.Conds, c.Then}, c.Alts) {
			all = append(all, asked(within)...)
		}
	}
	return all
}

// hasKind tells whether a list has a condition of a kind, at any level.
func hasKind(l []api.Cond, kind int) bool {
	return slices.ContainsFunc(l, func(c api.Cond) bool {
		return c.Kind == kind || hasKind(c.Conds, kind) || hasKind(c.Then, kind) || slices.ContainsFunc(c.Alts, func(alt []api.Cond) bool { return hasKind(alt, kind) })
	})
}

func union(a, b map[string]int) map[string]int {
	c := map[string]int{}
	maps.Copy(c, a)
	maps.Copy(c, b)
	return c
}

func within(l []string, s map[string]int) bool {
	for _, x := range l {
		if _, is := s[x]; !is {
			return false
		}
	}
	return true
}

func (m model) scopes() (string, bool) {
	for _, r := range m.b.Rules {
		if !m.scope(r.When, nil, nil) {
			return r.Name, false
		}
	}
	for _, q := range m.b.Queries {
		if !m.scope(q.When, nil, nil) || hasKind(q.When, api.CAcc) || hasKind(q.When, api.CForall) {
			return q.Name, false
		}
	}
	return "", true
}

// scope asks for rule 3 of a list with what is there ahead of it; behind are the conditions that stand behind it, in those around.
func (m model) scope(l []api.Cond, ahead map[string]int, behind []api.Cond) bool {
	for i, c := range l {
		there := union(ahead, sure(l[:i]))
		rest := slices.Concat(l[i+1:], behind)
		free := func(e ...api.Expr) bool {
			return within(atoms(api.EVar, e...), there) && len(atoms(api.EField, e...)) == 0
		}
		ok := true
		switch c.Kind {
		case api.CFact:
			ok = m.pattern(c, there)
		case api.CFrom, api.CEval:
			ok = free(c.E)
		case api.CNot, api.CExists:
			ok = m.scope(c.Conds, there, nil)
		case api.CForall:
			ok = m.scope(c.Conds, there, c.Then) && m.scope(c.Then, union(there, sure(c.Conds)), nil)
		case api.CAcc:
			all := union(there, sure(c.Conds))
			_, given := some(c.Conds)[c.Var]
			_, was := there[c.Var]
			ok = m.scope(c.Conds, there, nil) && within(atoms(api.EVar, c.E), all) && len(atoms(api.EField, c.E)) == 0 &&
				slices.Contains([]string{"count", "sum", "min", "max", "list"}, c.Fn) && !given && !was && !hasKind(c.Conds, api.COr)
		case api.CQuery:
			at := slices.IndexFunc(m.b.Queries, func(q api.Query) bool { return q.Name == c.Name })
			ok = at >= 0 && len(m.b.Queries[at].Params) == len(c.Args)
			for _, a := range c.Args {
				ok = ok && free(a.E)
			}
		case api.COr:
			ok = m.or(c, there, rest)
		}
		if !ok {
			return false
		}
	}
	return true
}

func (m model) pattern(c api.Cond, there map[string]int) bool {
	fields, err := m.t.Fields(c.Class)
	if err != api.OK {
		return false
	}
	its := map[string]int{}
	for _, f := range fields {
		its[f.Name] = 1
	}
	own := map[string]int{c.Var: 1}
	for _, b := range c.Binds {
		if b.Var == c.Var || !within([]string{b.Field}, its) {
			return false
		}
		own[b.Var] = 1
	}
	_, was := there[c.Var]
	return !was && within(atoms(api.EField, c.Tests...), its) && within(atoms(api.EVar, c.Tests...), union(there, own))
}

func (m model) or(c api.Cond, there map[string]int, rest []api.Cond) bool {
	all := sure([]api.Cond{c})
	later := some(rest)
	for _, alt := range c.Alts {
		if !m.scope(alt, there, rest) {
			return false
		}
		for v := range sure(alt) {
			_, always := all[v]
			_, was := there[v]
			_, again := later[v]
			if !always && !was && again {
				return false
			}
		}
	}
	return true
}

func (m model) actions() (string, bool) {
	for _, r := range m.b.Rules {
		there := sure(r.When)
		for _, a := range r.Then {
			var fields []string
			l := []api.Expr{a.E}
			for _, s := range a.Set {
				l = append(l, s.E)
				fields = append(fields, s.Field)
			}
			_, twice := again(fields)
			if !within(atoms(api.EVar, l...), there) || len(atoms(api.EField, l...)) > 0 || twice {
				return r.Name, false
			}
			if a.Kind == api.AInsert || a.Kind == api.ALogical {
				if _, err := m.t.Mask(a.Class, fields); err != api.OK {
					return r.Name, false
				}
			}
		}
	}
	return "", true
}

func (m model) queries() (string, bool) {
	for i, q := range m.b.Queries {
		for _, p := range q.Params {
			for _, l := range flat(q.When) {
				first := slices.IndexFunc(l, func(c api.Cond) bool { return slices.Contains(names(c), p) })
				if first < 0 {
					return q.Name, false
				}
				if _, has := some(l[:first])[p]; has || slices.Contains(asked(l[:first]), p) {
					return q.Name, false
				}
			}
		}
		if m.hangs(i) {
			return q.Name, false
		}
	}
	return "", true
}

// step is a way from a query to another one, and whether a step of it stands within a not or an exists.
type step struct {
	from, to string
	within   bool
}

// steps tells the queries that a list asks.
func steps(from string, l []api.Cond, not bool) map[step]int {
	all := map[step]int{}
	for _, c := range l {
		if c.Kind == api.CQuery {
			all[step{from, c.Name, not}] = 1
		}
		for _, x := range slices.Concat([][]api.Cond{c.Conds, c.Then}, c.Alts) {
			maps.Copy(all, steps(from, x, not || c.Kind == api.CNot || c.Kind == api.CExists))
		}
	}
	return all
}

func (m model) hangs(i int) bool {
	ways := map[step]int{}
	for _, q := range m.b.Queries {
		maps.Copy(ways, steps(q.Name, q.When, false))
	}
	for grown := true; grown; {
		grown = false
		for _, a := range slices.Collect(maps.Keys(ways)) {
			for _, b := range slices.Collect(maps.Keys(ways)) {
				long := step{a.from, b.to, a.within || b.within}
				if _, is := ways[long]; a.to == b.from && !is {
					ways[long] = 1
					grown = true
				}
			}
		}
	}
	_, is := ways[step{m.b.Queries[i].Name, m.b.Queries[i].Name, true}]
	return is
}

func (m model) counts() (string, bool) {
	total := 0
	for _, r := range m.b.Rules {
		many, cores := refused(r.When)
		if many || countWritten(r.When) > api.MaxConds {
			return r.Name, false
		}
		total += cores
	}
	for _, q := range m.b.Queries {
		if countWritten(q.When) > api.MaxConds {
			return q.Name, false
		}
	}
	return "", total <= api.MaxCores
}
