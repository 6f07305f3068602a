package desugar

import "proctor/api"

// copied makes a list anew, each of its elements by one.
func copied[T any](l []T, one func(T) T) []T {
	if l == nil {
		return nil
	}
	out := make([]T, len(l))
	for i, x := range l {
		out[i] = one(x)
	}
	return out
}

func copyCond(c api.Cond) api.Cond {
	c.Binds = copied(c.Binds, func(b api.Bind) api.Bind { return b })
	c.Tests = copied(c.Tests, copyExpr)
	c.Conds = copyConds(c.Conds)
	c.Then = copyConds(c.Then)
	c.Alts = copied(c.Alts, copyConds)
	c.E = copyExpr(c.E)
	c.Args = copied(c.Args, copyArg)
	return c
}

func copyConds(l []api.Cond) []api.Cond { return copied(l, copyCond) }

func copyArg(a api.Arg) api.Arg { return api.Arg{Var: a.Var, E: copyExpr(a.E)} }

func copyExpr(e api.Expr) api.Expr {
	e.V = copyValue(e.V)
	e.Args = copied(e.Args, copyExpr)
	return e
}

func copyValue(v api.Value) api.Value {
	v.List = copied(v.List, copyValue)
	return v
}
