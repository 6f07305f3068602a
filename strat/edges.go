package strat

import (
	"cmp"
	"maps"
	"slices"

	"proctor/api"
)

// edges is a set of edges.
type edges map[Edge]struct{}

func (l edges) add(e Edge) { l[e] = struct{}{} }

// sorted tells all of them, each once.
func (l edges) sorted() []Edge { return slices.SortedFunc(maps.Keys(l), order) }

func order(a, b Edge) int {
	return cmp.Or(cmp.Compare(a.From, b.From), cmp.Compare(a.To, b.To), cmp.Compare(bit(a.Not), bit(b.Not)))
}

func bit(not bool) int {
	if not {
		return 1
	}
	return 0
}

// edgesOf tells the edges of a base that keeps check's rules.
func edgesOf(b api.Base) edges {
	queries := make(map[string][]api.Cond, len(b.Queries))
	for _, q := range b.Queries {
		queries[q.Name] = q.When
	}
	all := edges{}
	for _, r := range b.Rules {
		to := justified(r.Then)
		if len(to) == 0 {
			continue
		}
		f := finder{queries: queries, classes: map[named]struct{}{}, asked: map[named]struct{}{}}
		f.conds(r.When, false)
		for from := range f.classes {
			for _, name := range to {
				all.add(Edge{From: from.name, To: name, Not: from.not})
			}
		}
	}
	return all
}

// justified tells the classes of which actions make justified facts.
func justified(l []api.Action) []string {
	var out []string
	for _, a := range l {
		if a.Kind == api.ALogical {
			out = append(out, a.Class)
		}
	}
	return out
}

// named is a class or a query that conditions name; not: so that all its facts must be known ahead of what hangs on it.
type named struct {
	name string
	not  bool
}

// finder gathers the classes that conditions name, in the queries that they ask, too. It goes once through a query for each way of asking it, since queries may ask one another in a ring.
type finder struct {
	queries map[string][]api.Cond
	classes map[named]struct{}
	asked   map[named]struct{}
}

func (f finder) conds(l []api.Cond, not bool) {
	for _, c := range l {
		f.cond(c, not)
	}
}

func (f finder) cond(c api.Cond, not bool) {
	switch c.Kind {
	case api.CFact:
		f.classes[named{c.Class, not}] = struct{}{}
	case api.CNot, api.CExists, api.CForall, api.CAcc:
		f.conds(c.Conds, true)
		f.conds(c.Then, true)
	case api.COr:
		for _, alt := range c.Alts {
			f.conds(alt, not)
		}
	case api.CQuery:
		f.question(named{c.Name, not})
	}
}

func (f finder) question(q named) {
	if _, ok := f.asked[q]; ok {
		return
	}
	f.asked[q] = struct{}{}
	f.conds(f.queries[q.name], q.not)
}
