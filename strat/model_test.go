package strat_test

import (
	"cmp"
	"slices"

	"proctor/api"
	"proctor/strat"
)

// mention is the name of a class or of a query, with the kinds of the conditions around it.
type mention struct {
	kind   int
	name   string
	around []int
}

func (m mention) denied() bool {
	return slices.ContainsFunc(m.around, func(kind int) bool { return kind != api.COr })
}

func mentions(l []api.Cond, around ...int) []mention {
	var all []mention
	for _, c := range l {
		if c.Kind == api.CFact || c.Kind == api.CQuery {
			all = append(all, mention{c.Kind, c.Class + c.Name, around})
		}
		for _, within := range slices.Concat([][]api.Cond{c.Conds, c.Then}, c.Alts) {
			all = append(all, mentions(within, append(slices.Clone(around), c.Kind)...)...)
		}
	}
	return all
}

// modelEdges goes by the chapter's words: what a query names grows, as far as it may, by what those name that it asks.
func modelEdges(b api.Base) []strat.Edge {
	of := map[string][]strat.Edge{}
	for range 2*len(b.Queries) + 1 {
		for _, q := range b.Queries {
			of[q.Name] = edgesTo("", q.When, of)
		}
	}
	var all []strat.Edge
	for _, r := range b.Rules {
		for _, a := range r.Then {
			if a.Kind == api.ALogical {
				all = append(all, edgesTo(a.Class, r.When, of)...)
			}
		}
	}
	return each(all)
}

func edgesTo(to string, l []api.Cond, of map[string][]strat.Edge) []strat.Edge {
	var all []strat.Edge
	for _, m := range mentions(l) {
		if m.kind == api.CFact {
			all = append(all, strat.Edge{From: m.name, To: to, Not: m.denied()})
			continue
		}
		for _, e := range of[m.name] {
			all = append(all, strat.Edge{From: e.From, To: to, Not: e.Not || m.denied()})
		}
	}
	return each(all)
}

// each sorts edges, and tells each once.
func each(l []strat.Edge) []strat.Edge {
	slices.SortFunc(l, func(a, b strat.Edge) int {
		if by := cmp.Or(cmp.Compare(a.From, b.From), cmp.Compare(a.To, b.To)); by != 0 || a.Not == b.Not {
			return by
		}
		if b.Not {
			return -1
		}
		return 1
	})
	return slices.Compact(l)
}

// graph is a base's classes by their numbers in the table: whether there is a Not edge from one to another one, as edges hold, and whether there is a way, be it of no edge.
type graph struct {
	names []string
	not   [][]bool
	way   [][]bool
}

func grid(n int) [][]bool {
	var rows [][]bool
	for range n {
		rows = append(rows, make([]bool, n))
	}
	return rows
}

func modelGraph(b api.Base, l []strat.Edge) graph {
	n := len(b.Classes)
	g := graph{not: grid(n), way: grid(n)}
	super := map[string]string{}
	for _, c := range b.Classes {
		g.names = append(g.names, c.Name)
		super[c.Name] = c.Super
	}
	for i, c := range b.Classes {
		g.way[i][i] = true
		for above := c.Name; above != ""; above = super[above] {
			for _, e := range l {
				if to := slices.Index(g.names, e.To); e.From == above {
					g.way[i][to] = true
					g.not[i][to] = g.not[i][to] || e.Not
				}
			}
		}
	}
	for k := range n {
		for i := range n {
			for j := range n {
				g.way[i][j] = g.way[i][j] || g.way[i][k] && g.way[k][j]
			}
		}
	}
	return g
}

// ring tells whether a class has a way back to itself with a Not edge in it.
func (g graph) ring() bool {
	for i := range g.names {
		for j := range g.names {
			if g.not[i][j] && g.way[j][i] {
				return true
			}
		}
	}
	return false
}

// number tells a class's number, if there is no ring: of the last Not edge on a way to it, one more than where that edge begins.
func (g graph) number(at int) int {
	most := 0
	for i := range g.names {
		for j := range g.names {
			if g.not[i][j] && g.way[j][at] {
				most = max(most, g.number(i)+1)
			}
		}
	}
	return most
}

func (g graph) strata() [][]string {
	var out [][]string
	for told := 0; told < len(g.names); {
		var names []string
		for i, name := range g.names {
			if g.number(i) == len(out) {
				names = append(names, name)
			}
		}
		out = append(out, names)
		told += len(names)
	}
	return out
}
