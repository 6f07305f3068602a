package parse

import (
	"slices"

	"proctor/api"
	"proctor/lex"
)

// conds reads one condition or more, up to one of ends. What neither begins one nor ends them is barred by cond.
func (p *parser) conds(ends ...string) []api.Cond {
	l := []api.Cond{p.cond()}
	for !slices.ContainsFunc(ends, p.is) {
		l = append(l, p.cond())
	}
	return l
}

func (p *parser) cond() api.Cond {
	switch {
	case p.isKind(lex.Var):
		return p.condOfVar()
	case p.skip("not"):
		return api.Cond{Kind: api.CNot, Conds: p.block()}
	case p.skip("exists"):
		return api.Cond{Kind: api.CExists, Conds: p.block()}
	case p.skip("forall"):
		return p.forall()
	case p.is("("):
		return p.or()
	case p.skip("eval"):
		return api.Cond{Kind: api.CEval, E: p.inParentheses().Expr}
	case p.skip("acc"):
		return p.acc()
	case p.skip("?"):
		return p.question()
	}
	return p.pattern("")
}

func (p *parser) condOfVar() api.Cond {
	of := p.variable()
	if p.skip(":") {
		return p.pattern(of)
	}
	p.take("from")
	return api.Cond{Kind: api.CFrom, Var: of, E: p.expr()}
}

func (p *parser) pattern(of string) api.Cond {
	c := api.Cond{Kind: api.CFact, Var: of, Class: p.name()}
	p.list("(", ")", func() {
		if p.isVarWith(":") {
			c.Binds = append(c.Binds, p.bind())
		} else {
			c.Tests = append(c.Tests, p.expr())
		}
	})
	return c
}

func (p *parser) bind() api.Bind {
	b := api.Bind{Var: p.variable()}
	p.take(":")
	b.Field = p.name()
	return b
}

func (p *parser) block() (l []api.Cond) {
	p.within("(", ")", func() { l = p.conds(")") })
	return l
}

func (p *parser) forall() api.Cond {
	c := api.Cond{Kind: api.CForall}
	p.within("(", ")", func() {
		c.Conds = p.conds(";")
		p.take(";")
		c.Then = p.conds(")")
	})
	return c
}

func (p *parser) or() api.Cond {
	c := api.Cond{Kind: api.COr}
	p.within("(", ")", func() {
		c.Alts = append(c.Alts, p.conds("or"))
		for p.skip("or") {
			c.Alts = append(c.Alts, p.conds("or", ")"))
		}
	})
	return c
}

func (p *parser) acc() api.Cond {
	c := api.Cond{Kind: api.CAcc}
	p.within("(", ")", func() {
		c.Var = p.variable()
		p.take(":")
		c.Fn = p.function()
		c.E = p.inParentheses().Expr
		p.take("over")
		c.Conds = p.conds(")")
	})
	return c
}

func (p *parser) function() string {
	if p.is("list") {
		return p.next().Text
	}
	return p.name()
}

func (p *parser) question() api.Cond {
	c := api.Cond{Kind: api.CQuery, Name: p.name()}
	p.list("(", ")", func() { c.Args = append(c.Args, p.arg()) })
	return c
}

func (p *parser) arg() api.Arg {
	if !p.isVarWith("?") {
		return api.Arg{E: p.expr()}
	}
	a := api.Arg{Var: p.variable()}
	p.take("?")
	return a
}
