package check

import (
	"slices"

	"proctor/api"
)

func (k *checker) queries() {
	asks := newQuestions(k.base.Queries)
	for _, q := range k.base.Queries {
		k.at = q.Name
		there := given(q.When, 1)
		for _, p := range q.Params {
			k.barUnless(slices.Contains(there, p))
			k.fresh(q.When, p)
		}
		k.barUnless(!asks.denies(q.Name))
	}
}

// fresh asks that nothing has a variable ahead of the first condition that gives it, so that it may be given from outside.
func (k *checker) fresh(l []api.Cond, v string) {
	for i, c := range l {
		one := l[i : i+1]
		if slices.Contains(given(one, 1), v) {
			for _, alt := range c.Alts {
				k.fresh(alt, v)
			}
			return
		}
		k.barUnless(!mentions(one, v))
	}
}

// questions are the queries that each query asks: at any level, and within a not or an exists.
type questions struct {
	all    map[string]set
	within map[string]set
}

func newQuestions(l []api.Query) questions {
	asks := questions{all: make(map[string]set, len(l)), within: make(map[string]set, len(l))}
	for _, q := range l {
		asks.all[q.Name] = asked(q.When)
		within := set{}
		for c := range everywhere(q.When) {
			if c.Kind == api.CNot || c.Kind == api.CExists {
				for name := range asked(c.Conds) {
					within.add(name)
				}
			}
		}
		asks.within[q.Name] = within
	}
	return asks
}

// asked tells the names of the queries that a list asks, at any level.
func asked(l []api.Cond) set {
	names := set{}
	for c := range everywhere(l) {
		if c.Kind == api.CQuery {
			names.add(c.Name)
		}
	}
	return names
}

// reach tells the queries to which there is a way from one, itself among them.
func (asks questions) reach(from string) set {
	names := set{}
	var visit func(name string)
	visit = func(name string) {
		if names.has(name) {
			return
		}
		names.add(name)
		for next := range asks.all[name] {
			visit(next)
		}
	}
	visit(from)
	return names
}

// denies tells whether there is a way from a query back to it with a step within a not or an exists.
func (asks questions) denies(name string) bool {
	for on := range asks.reach(name) {
		for next := range asks.within[on] {
			if asks.reach(next).has(name) {
				return true
			}
		}
	}
	return false
}
