package print

import "proctor/api"

// conds writes one condition or more.
func (w *writer) conds(l []api.Cond) {
	barUnless(len(l) > 0)
	w.anyConds(l)
}

func (w *writer) anyConds(l []api.Cond) {
	for _, c := range l {
		w.cond(c)
	}
}

// cond takes what it writes out of rest: what is left there would be lost, so it must be none.
func (w *writer) cond(c api.Cond) {
	rest := c
	rest.Kind = api.CNone
	switch c.Kind {
	case api.CFact:
		rest.Var, rest.Class, rest.Binds, rest.Tests = "", "", nil, nil
		w.pattern(c)
	case api.CNot:
		rest.Conds = nil
		w.block("not", c.Conds)
	case api.CExists:
		rest.Conds = nil
		w.block("exists", c.Conds)
	case api.CForall:
		rest.Conds, rest.Then = nil, nil
		w.forall(c)
	case api.COr:
		rest.Alts = nil
		w.or(c.Alts)
	case api.CFrom:
		rest.Var, rest.E = "", api.Expr{}
		w.from(c)
	case api.CEval:
		rest.E = api.Expr{}
		w.call("eval", []api.Expr{c.E})
	case api.CAcc:
		rest.Var, rest.Fn, rest.E, rest.Conds = "", "", api.Expr{}, nil
		w.acc(c)
	case api.CQuery:
		rest.Name, rest.Args = "", nil
		w.question(c)
	default:
		bar()
	}
	barUnless(isNoCond(rest))
}

func isNoCond(c api.Cond) bool {
	return c.Kind == api.CNone && c.Var == "" && c.Class == "" && len(c.Binds) == 0 && len(c.Tests) == 0 &&
		len(c.Conds) == 0 && len(c.Then) == 0 && len(c.Alts) == 0 &&
		isNoExpr(c.E) && c.Fn == "" && c.Name == "" && len(c.Args) == 0
}

func (w *writer) pattern(c api.Cond) {
	if c.Var != "" {
		w.variable(c.Var)
		w.put(":")
	}
	w.name(c.Class)
	w.within("(", ")", func() {
		commas(w, c.Binds, w.bind)
		if len(c.Binds) > 0 && len(c.Tests) > 0 {
			w.put(",")
		}
		commas(w, c.Tests, w.expr)
	})
}

func (w *writer) bind(b api.Bind) {
	w.variable(b.Var)
	w.put(":")
	w.name(b.Field)
}

func (w *writer) block(word string, l []api.Cond) {
	w.put(word)
	w.within("(", ")", func() { w.conds(l) })
}

func (w *writer) forall(c api.Cond) {
	w.put("forall")
	w.within("(", ")", func() {
		w.conds(c.Conds)
		w.put(";")
		w.conds(c.Then)
	})
}

// or writes two alternatives or more.
func (w *writer) or(alts [][]api.Cond) {
	barUnless(len(alts) > 1)
	w.within("(", ")", func() {
		for i, alt := range alts {
			if i > 0 {
				w.put("or")
			}
			w.conds(alt)
		}
	})
}

func (w *writer) from(c api.Cond) {
	w.variable(c.Var)
	w.put("from")
	w.expr(c.E)
}

func (w *writer) acc(c api.Cond) {
	w.put("acc")
	w.within("(", ")", func() {
		w.variable(c.Var)
		w.put(":")
		w.function(c.Fn)
		w.within("(", ")", func() { w.expr(c.E) })
		w.put("over")
		w.conds(c.Conds)
	})
}

// function writes the one keyword that may stand in a name's place as it is.
func (w *writer) function(fn string) {
	if fn == "list" {
		w.put(fn)
		return
	}
	w.name(fn)
}

func (w *writer) question(c api.Cond) {
	w.put("?")
	w.name(c.Name)
	w.within("(", ")", func() { commas(w, c.Args, w.arg) })
}

func (w *writer) arg(a api.Arg) {
	if a.Var == "" {
		w.expr(a.E)
		return
	}
	barUnless(isNoExpr(a.E))
	w.variable(a.Var)
	w.put("?")
}
