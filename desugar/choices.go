package desugar

import (
	"iter"
	"slices"

	"proctor/api"
)

// beyond is more choices than any list may leave.
const beyond = api.MaxCores + 1

// many counts the choices that a list leaves, as far as beyond: none, if an or at its own level has no alternative.
func many(l []api.Cond) int {
	n := 1
	for _, c := range l {
		if c.Kind == api.COr {
			n = min(n*either(c.Alts), beyond)
		}
	}
	return n
}

func either(alts [][]api.Cond) int {
	n := 0
	for _, alt := range alts {
		n = min(n+many(alt), beyond)
	}
	return n
}

// choices goes through the choices that a list leaves, the first or's slowest: each is conditions as they are written, with no or at their own level. It goes down once for each or that leaves several, so the list must not leave too many.
func choices(l []api.Cond) iter.Seq[[]api.Cond] {
	return func(yield func([]api.Cond) bool) {
		var choose func(l, ahead []api.Cond, then func([]api.Cond) bool) bool
		choose = func(l, ahead []api.Cond, then func([]api.Cond) bool) bool {
			l = settled(l)
			at := slices.IndexFunc(l, isOr)
			if at < 0 {
				return then(slices.Concat(ahead, l))
			}
			ahead = slices.Concat(ahead, l[:at])
			behind := func(ahead []api.Cond) bool { return choose(l[at+1:], ahead, then) }
			for _, alt := range l[at].Alts {
				if many(alt) > 0 && !choose(alt, ahead, behind) {
					return false
				}
			}
			return true
		}
		if many(l) > 0 {
			choose(l, nil, yield)
		}
	}
}

func isOr(c api.Cond) bool { return c.Kind == api.COr }

// settled puts what an or has in its place, where it leaves one choice alone: of these a list may have as many as it likes.
func settled(l []api.Cond) []api.Cond {
	var out []api.Cond
	for _, c := range l {
		if !isOr(c) || either(c.Alts) > 1 {
			out = append(out, c)
			continue
		}
		for _, alt := range c.Alts {
			if many(alt) > 0 {
				out = append(out, settled(alt)...)
			}
		}
	}
	return out
}
