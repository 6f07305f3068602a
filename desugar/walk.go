package desugar

import (
	"iter"

	"proctor/api"
)

// everywhere tells all conditions of a list, at any level, in the lists of whatever kinds.
func everywhere(l []api.Cond) iter.Seq[api.Cond] {
	return func(yield func(api.Cond) bool) { walk(l, yield) }
}

// walk tells whether yield asked for all of them.
func walk(l []api.Cond, yield func(api.Cond) bool) bool {
	for _, c := range l {
		if !yield(c) || !walk(c.Conds, yield) || !walk(c.Then, yield) {
			return false
		}
		for _, alt := range c.Alts {
			if !walk(alt, yield) {
				return false
			}
		}
	}
	return true
}

// deeper tells whether conditions stand more than so deep in one another; it goes no deeper itself.
func deeper(l []api.Cond, deep int) bool {
	if deep == 0 {
		return len(l) > 0
	}
	for _, c := range l {
		if deeper(c.Conds, deep-1) || deeper(c.Then, deep-1) {
			return true
		}
		for _, alt := range c.Alts {
			if deeper(alt, deep-1) {
				return true
			}
		}
	}
	return false
}
