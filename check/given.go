package check

import (
	"slices"

	"proctor/api"
)

// gives tells the variables that a condition gives by itself, as they come: none of an or, which has them of its alternatives. A variable may come twice.
func gives(c api.Cond) []string {
	var l []string
	switch c.Kind {
	case api.CFact:
		l = append(l, c.Var)
		for _, b := range c.Binds {
			l = append(l, b.Var)
		}
	case api.CFrom, api.CAcc:
		l = append(l, c.Var)
	case api.CQuery:
		for _, a := range c.Args {
			l = append(l, a.Var)
		}
	}
	return slices.DeleteFunc(l, func(v string) bool { return v == "" })
}

// given tells the variables that a list gives, each once; deep is how deep its conditions stand in one another. What is too deep gives nothing, so that any list is gone through to an end.
func given(l []api.Cond, deep int) []string {
	if deep > api.MaxDeep {
		return nil
	}
	var out []string
	told := set{}
	for _, c := range l {
		for _, v := range slices.Concat(gives(c), common(c, deep+1)) {
			if !told.has(v) {
				told.add(v)
				out = append(out, v)
			}
		}
	}
	return out
}

// common tells the variables that all alternatives of an or give, as they come in the first one.
func common(c api.Cond, deep int) []string {
	if c.Kind != api.COr || len(c.Alts) == 0 {
		return nil
	}
	out := given(c.Alts[0], deep)
	for _, alt := range c.Alts[1:] {
		its := set{}
		its.add(given(alt, deep)...)
		out = slices.DeleteFunc(out, func(v string) bool { return !its.has(v) })
	}
	return out
}
