package check

import (
	"proctor/api"
	"proctor/class"
)

// checker goes over a base, rule by rule. at is the Name that is told, if what it looks at is barred.
type checker struct {
	base    api.Base
	classes *class.Table
	params  map[string]int
	at      string
}

func newChecker(b api.Base, classes *class.Table) *checker {
	k := &checker{base: b, classes: classes, params: make(map[string]int, len(b.Queries))}
	for _, q := range b.Queries {
		k.params[q.Name] = len(q.Params)
	}
	return k
}

// barred is what a checker panics with: whose conditions, actions, names break a rule.
type barred struct{ where string }

func (k *checker) barUnless(may bool) {
	if !may {
		panic(barred{where: k.at})
	}
}

// run asks for the rules 2 to 6, each of all that the base declares. The first breach ends it by a panic, so that no step between has to hand errors on; a panic of any other kind goes on.
func (k *checker) run() (where string, err api.Errno) {
	defer func() {
		switch found := recover().(type) {
		case nil:
		case barred:
			where, err = found.where, api.ErrScope
		default:
			panic(found)
		}
	}()
	k.names()
	k.scopes()
	k.actions()
	k.queries()
	k.counts()
	return "", api.OK
}

func (k *checker) names() {
	rules, queries := set{}, set{}
	for _, r := range k.base.Rules {
		k.at = r.Name
		k.unlike(rules, r.Name)
	}
	for _, q := range k.base.Queries {
		k.at = q.Name
		k.unlike(queries, q.Name)
	}
	for _, q := range k.base.Queries {
		k.at = q.Name
		params := set{}
		for _, p := range q.Params {
			k.unlike(params, p)
		}
	}
	k.at = ""
	k.barUnless(len(k.base.Rules)+len(k.base.Queries) <= api.MaxDecls)
}

// unlike takes a name in that must be none of those that are in.
func (k *checker) unlike(in set, name string) {
	k.barUnless(!in.has(name))
	in.add(name)
}

func (k *checker) scopes() {
	for _, r := range k.base.Rules {
		k.at = r.Name
		k.behind(r.When)
	}
	for _, q := range k.base.Queries {
		k.at = q.Name
		k.behind(q.When)
		for c := range everywhere(q.When) {
			k.barUnless(c.Kind != api.CAcc && c.Kind != api.CForall)
		}
	}
}

func (k *checker) actions() {
	for _, r := range k.base.Rules {
		k.at = r.Name
		there := k.behind(r.When)
		for _, a := range r.Then {
			k.action(a, there)
		}
	}
}

// action goes through the expressions of all kinds in one: what a kind hasn't is nothing there.
func (k *checker) action(a api.Action, there set) {
	k.expr(a.E, there, nil)
	fields := set{}
	for _, s := range a.Set {
		k.unlike(fields, s.Field)
		k.expr(s.E, there, nil)
	}
	if a.Kind == api.AInsert || a.Kind == api.ALogical {
		its := k.fields(a.Class)
		for field := range fields {
			k.barUnless(its.has(field))
		}
	}
}

// fields tells the names of the fields of a class, which must be one.
func (k *checker) fields(name string) set {
	l, err := k.classes.Fields(name)
	k.barUnless(err == api.OK)
	its := set{}
	for _, f := range l {
		its.add(f.Name)
	}
	return its
}
