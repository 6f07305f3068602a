package check

import "proctor/api"

// plenty is beyond all bounds, and the product of two of it is within int.
const plenty = 1 << 20

// counts asks for the bounds of conditions, and of what desugar makes of a rule's: it refuses those that are too deep, too.
func (k *checker) counts() {
	cores := 0
	for _, r := range k.base.Rules {
		k.at = r.Name
		k.count(r.When)
		k.barUnless(depth(r.When) <= api.MaxDeep)
		its := madeOf(r.When)
		k.barUnless(its.alts <= api.MaxCores && its.most <= api.MaxConds)
		cores += its.alts
	}
	for _, q := range k.base.Queries {
		k.at = q.Name
		k.count(q.When)
	}
	k.at = ""
	k.barUnless(cores <= api.MaxCores)
}

func (k *checker) count(l []api.Cond) {
	many := 0
	for range everywhere(l) {
		many++
	}
	k.barUnless(many <= api.MaxConds)
}

// depth tells how deep a list's conditions are in one another.
func depth(l []api.Cond) int {
	deepest := 0
	for _, c := range l {
		within := max(depth(c.Conds), depth(c.Then))
		for _, alt := range c.Alts {
			within = max(within, depth(alt))
		}
		deepest = max(deepest, within+1)
	}
	return deepest
}

// made is how much desugar makes of conditions, as far as plenty: how many alternatives; how many conditions, at all levels, the greatest of them has; and how many all of them have together.
type made struct{ alts, most, all int }

func capped(alts, most, all int) made {
	return made{alts: min(alts, plenty), most: min(most, plenty), all: min(all, plenty)}
}

// single is one alternative of so many conditions.
func single(conds int) made { return capped(1, conds, conds) }

// madeOf puts conditions behind one another: each choice ahead goes with each one behind.
func madeOf(l []api.Cond) made {
	m := single(0)
	for _, c := range l {
		n := madeOfOne(c)
		m = capped(m.alts*n.alts, m.most+n.most, m.all*n.alts+n.all*m.alts)
	}
	return m
}

func madeOfOne(c api.Cond) made {
	switch c.Kind {
	case api.CNot:
		return single(madeOf(c.Conds).nots())
	case api.CExists:
		m := madeOf(c.Conds)
		if m.alts > 1 {
			return single(1 + m.nots())
		}
		return single(1 + m.all)
	case api.CForall:
		calls, then := madeOf(c.Conds), madeOf(c.Then)
		return single(calls.nots() + calls.alts*then.nots())
	case api.COr:
		return madeOfAny(c.Alts)
	case api.CAcc:
		return single(1 + madeOf(c.Conds).all)
	}
	return single(1)
}

// nots counts the conditions of a not of each alternative.
func (m made) nots() int { return m.alts + m.all }

func madeOfAny(alts [][]api.Cond) made {
	var m made
	for _, alt := range alts {
		n := madeOf(alt)
		m = capped(m.alts+n.alts, max(m.most, n.most), m.all+n.all)
	}
	return m
}
