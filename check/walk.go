package check

import (
	"iter"

	"proctor/api"
)

// everywhere tells all conditions of a list, at any level.
func everywhere(l []api.Cond) iter.Seq[api.Cond] {
	return func(yield func(api.Cond) bool) { walk(l, yield) }
}

// walk tells whether yield asked for all of them.
func walk(l []api.Cond, yield func(api.Cond) bool) bool {
	for _, c := range l {
		if !yield(c) || !walk(c.Conds, yield) || !walk(c.Then, yield) {
			return false
		}
		for _, alt := range c.Alts {
			if !walk(alt, yield) {
				return false
			}
		}
	}
	return true
}

// parts tells an expression and all those within it.
func parts(e api.Expr) iter.Seq[api.Expr] {
	return func(yield func(api.Expr) bool) { walkExpr(e, yield) }
}

func walkExpr(e api.Expr, yield func(api.Expr) bool) bool {
	if !yield(e) {
		return false
	}
	for _, a := range e.Args {
		if !walkExpr(a, yield) {
			return false
		}
	}
	return true
}

// exprs tells all expressions of a list's conditions, at any level, with those within them.
func exprs(l []api.Cond) iter.Seq[api.Expr] {
	return func(yield func(api.Expr) bool) {
		for c := range everywhere(l) {
			for _, whole := range own(c) {
				if !walkExpr(whole, yield) {
					return
				}
			}
		}
	}
}

// own tells the expressions that stand in a condition itself.
func own(c api.Cond) []api.Expr {
	l := append([]api.Expr{c.E}, c.Tests...)
	for _, a := range c.Args {
		l = append(l, a.E)
	}
	return l
}

// mentions tells whether a variable stands anywhere in a list, be it given or asked for.
func mentions(l []api.Cond, v string) bool {
	for c := range everywhere(l) {
		for _, other := range gives(c) {
			if other == v {
				return true
			}
		}
	}
	for e := range exprs(l) {
		if e.Op == api.EVar && e.Text == v {
			return true
		}
	}
	return false
}
