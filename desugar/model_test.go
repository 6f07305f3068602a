package desugar_test

import (
	"slices"

	"proctor/api"
)

// far is what the model panics with, if a list has so many alternatives that nobody needs to know them.
type far struct{}

// model makes alternatives as the chapter says it, without a bound: each list in full, choice by choice.
func model(l []api.Cond) [][]api.Cond {
	var places [][][]api.Cond // for each condition what may stand in its place
	for _, c := range l {
		p := place(c)
		if len(p) == 0 {
			return nil
		}
		places = append(places, p)
	}
	all := [][]api.Cond{nil}
	for _, p := range places {
		var next [][]api.Cond
		for _, ahead := range all {
			for _, its := range p {
				next = append(next, slices.Concat(ahead, its))
			}
		}
		if all = next; len(all) > 2*api.MaxCores {
			panic(far{})
		}
	}
	return all
}

func place(c api.Cond) [][]api.Cond {
	only := func(l ...api.Cond) [][]api.Cond { return [][]api.Cond{l} }
	switch c.Kind {
	case api.COr:
		var all [][]api.Cond
		for _, alt := range c.Alts {
			all = append(all, model(alt)...)
		}
		return all
	case api.CNot:
		return only(nots(model(c.Conds), nil)...)
	case api.CForall:
		return only(nots(model(c.Conds), nots(model(c.Then), nil))...)
	case api.CExists:
		l := model(c.Conds)
		if len(l) != 1 {
			return only(within(api.CNot, nots(l, nil)...))
		}
		c.Conds = l[0]
	case api.CAcc:
		l := model(c.Conds)
		c.Conds = list(within(api.CNot))
		if len(l) > 0 {
			c.Conds = l[0]
		}
	}
	return only(c)
}

// nots makes a not of each list, with what stands behind it.
func nots(l [][]api.Cond, behind []api.Cond) []api.Cond {
	var all []api.Cond
	for _, x := range l {
		all = append(all, within(api.CNot, slices.Concat(x, behind)...))
	}
	if count(all) > 8*api.MaxConds {
		panic(far{})
	}
	return all
}

// severalOver tells whether an acc, at any level, goes over a list of several alternatives.
func severalOver(l []api.Cond) bool {
	return slices.ContainsFunc(l, func(c api.Cond) bool {
		return c.Kind == api.CAcc && len(model(c.Conds)) > 1 || severalOver(c.Conds) || severalOver(c.Then) || slices.ContainsFunc(c.Alts, severalOver)
	})
}

func count(l []api.Cond) int {
	n := len(l)
	for _, c := range l {
		n += count(c.Conds) + count(c.Then)
		for _, alt := range c.Alts {
			n += count(alt)
		}
	}
	return n
}

func depth(l []api.Cond) int {
	n := 0
	for _, c := range l {
		n = max(n, 1+depth(c.Conds), 1+depth(c.Then))
		for _, alt := range c.Alts {
			n = max(n, 1+depth(alt))
		}
	}
	return n
}

// has tells whether a list has one of the kinds, at any level.
func has(l []api.Cond, kinds ...int) bool {
	return slices.ContainsFunc(l, func(c api.Cond) bool {
		return slices.Contains(kinds, c.Kind) || has(c.Conds, kinds...) || has(c.Then, kinds...) || slices.ContainsFunc(c.Alts, func(l []api.Cond) bool { return has(l, kinds...) })
	})
}

// outcomes of the model.
const (
	fine     = "fine"
	tooMany  = "too many alternatives"
	tooGreat = "too many conditions"
	tooDeep  = "too deep"
	tooFar   = "too far"
	several  = "several alternatives of an acc"
)

// modelled tells the alternatives by the model, or why there are none.
func modelled(l []api.Cond) (alts [][]api.Cond, outcome string) {
	defer func() {
		switch found := recover().(type) {
		case nil:
		case far:
			alts, outcome = nil, tooFar
		default:
			panic(found)
		}
	}()
	if depth(l) > api.MaxDeep {
		return nil, tooDeep
	}
	if severalOver(l) {
		return nil, several
	}
	if alts = model(l); len(alts) > api.MaxCores {
		return nil, tooMany
	}
	for _, alt := range alts {
		if count(alt) > api.MaxConds {
			return nil, tooGreat
		}
	}
	return alts, fine
}
