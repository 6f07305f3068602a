package desugar

import (
	"slices"

	"proctor/api"
)

// tooMuch is what a walk panics with that would make more than may be.
type tooMuch struct{}

func barUnless(ok bool) {
	if !ok {
		panic(tooMuch{})
	}
}

// alternatives makes those of a list that is not too deep; false, if they are more than may be, or one has more than it may.
func alternatives(l []api.Cond) (alts [][]api.Cond, ok bool) {
	defer func() {
		switch found := recover().(type) {
		case nil:
		case tooMuch:
			alts, ok = nil, false
		default:
			panic(found)
		}
	}()
	for c := range everywhere(l) {
		barUnless(c.Kind != api.CAcc || many(c.Conds) <= 1)
	}
	barUnless(many(l) <= api.MaxCores)
	for chosen := range choices(l) {
		m := maker{left: api.MaxConds}
		alts = append(alts, m.list(chosen))
	}
	return alts, true
}

// maker makes one alternative, in which so many conditions are left to be made.
type maker struct{ left int }

func (m *maker) list(l []api.Cond) []api.Cond {
	var out []api.Cond
	for _, c := range l {
		out = append(out, m.cond(c)...)
	}
	return out
}

// cond makes what stands in the place of a condition. A forall is a not of what calls for it without what must hold; an exists that leaves choices is a not of their nots.
func (m *maker) cond(c api.Cond) []api.Cond {
	switch c.Kind {
	case api.CNot:
		return m.each(c)
	case api.CExists:
		if many(c.Conds) != 1 {
			return m.each(not(not(c.Conds...)))
		}
		return m.each(c)
	case api.CForall:
		return m.each(not(append(slices.Clone(c.Conds), not(c.Then...))...))
	case api.CAcc:
		if many(c.Conds) == 0 { // nothing is gathered then, as over a not that never holds
			c.Conds = []api.Cond{not()}
		}
		return m.each(c)
	}
	return []api.Cond{m.whole(c)}
}

func not(l ...api.Cond) api.Cond { return api.Cond{Kind: api.CNot, Conds: l} }

// each makes a condition once for each choice of what stands in it. More choices than conditions may be are not gone through, since each is one.
func (m *maker) each(c api.Cond) []api.Cond {
	barUnless(many(c.Conds) <= api.MaxConds)
	var out []api.Cond
	for chosen := range choices(c.Conds) {
		hollow := c
		hollow.Conds = nil
		made := m.whole(hollow)
		made.Conds = m.list(chosen)
		out = append(out, made)
	}
	return out
}

// whole copies a condition with all that stands in it.
func (m *maker) whole(c api.Cond) api.Cond {
	for range everywhere([]api.Cond{c}) {
		m.left--
		barUnless(m.left >= 0)
	}
	return copyCond(c)
}
