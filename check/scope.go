package check

import (
	"maps"

	"proctor/api"
)

// set is a set of names.
type set map[string]struct{}

func (s set) has(name string) bool {
	_, ok := s[name]
	return ok
}

func (s set) add(names ...string) {
	for _, name := range names {
		s[name] = struct{}{}
	}
}

// scope is what is known at a place: the variables that are there, and those that must not be given any more, since some alternatives ahead give them, and not all.
type scope struct {
	there  set
	spoilt set
}

func (s scope) copy() scope {
	return scope{there: maps.Clone(s.there), spoilt: maps.Clone(s.spoilt)}
}

// behind tells the variables that are there behind a rule's or a query's conditions.
func (k *checker) behind(l []api.Cond) set {
	s := scope{there: set{}, spoilt: set{}}
	k.conds(l, s)
	return s.there
}

// conds goes through a list, and leaves in s what is known behind it.
func (k *checker) conds(l []api.Cond, s scope) {
	for _, c := range l {
		k.cond(c, s)
	}
}

func (k *checker) cond(c api.Cond, s scope) {
	switch c.Kind {
	case api.CFact:
		k.pattern(c, s)
	case api.CNot, api.CExists:
		k.conds(c.Conds, s.copy())
	case api.CForall:
		within := s.copy()
		k.conds(c.Conds, within)
		k.conds(c.Then, within)
	case api.COr:
		k.or(c.Alts, s)
	case api.CFrom, api.CEval:
		k.expr(c.E, s.there, nil)
	case api.CAcc:
		k.acc(c, s)
	case api.CQuery:
		k.question(c, s)
	}
	k.give(c, s)
}

// give lets the variables that a condition gives by itself be there.
func (k *checker) give(c api.Cond, s scope) {
	for _, v := range gives(c) {
		k.barUnless(!s.spoilt.has(v))
		s.there.add(v)
	}
}

// pattern asks for a pattern's own Var that no one else gives, so that a fact is told by it alone.
func (k *checker) pattern(c api.Cond, s scope) {
	fields := k.fields(c.Class)
	there := maps.Clone(s.there)
	there.add(gives(c)...)
	for _, b := range c.Binds {
		k.barUnless(fields.has(b.Field) && b.Var != c.Var)
	}
	for _, e := range c.Tests {
		k.expr(e, there, fields)
	}
	k.barUnless(!s.there.has(c.Var))
}

func (k *checker) acc(c api.Cond, s scope) {
	within := s.copy()
	k.conds(c.Conds, within)
	k.expr(c.E, within.there, nil)
	k.barUnless(isAggregate(c.Fn) && !s.there.has(c.Var) && !mentions(c.Conds, c.Var))
	for inner := range everywhere(c.Conds) {
		k.barUnless(inner.Kind != api.COr)
	}
}

func isAggregate(fn string) bool {
	switch fn {
	case "count", "sum", "min", "max", "list":
		return true
	}
	return false
}

func (k *checker) question(c api.Cond, s scope) {
	params, is := k.params[c.Name]
	k.barUnless(is && params == len(c.Args))
	for _, a := range c.Args {
		k.expr(a.E, s.there, nil)
	}
}

// or goes through each alternative by itself: none knows of another one.
func (k *checker) or(alts [][]api.Cond, s scope) {
	var ends []scope
	for _, alt := range alts {
		within := s.copy()
		k.conds(alt, within)
		ends = append(ends, within)
	}
	s.join(ends)
}

// join lets what is there at all ends be there, and spoils what is at some alone. What is spoilt within one of them stays so.
func (s scope) join(ends []scope) {
	many := map[string]int{}
	for _, end := range ends {
		for v := range end.there {
			many[v]++
		}
		maps.Copy(s.spoilt, end.spoilt)
	}
	for v, n := range many {
		if n == len(ends) {
			s.there.add(v)
		} else {
			s.spoilt.add(v)
		}
	}
}

// expr asks that an expression's variables are there, and that its fields are some of fields.
func (k *checker) expr(e api.Expr, there, fields set) {
	for x := range parts(e) {
		switch x.Op {
		case api.EVar:
			k.barUnless(there.has(x.Text))
		case api.EField:
			k.barUnless(fields.has(x.Text))
		}
	}
}
