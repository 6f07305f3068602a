package parse

import "proctor/api"

// mostSalience bounds a salience both ways.
const mostSalience = 1 << 31

func (p *parser) file() api.Base {
	var b api.Base
	for !p.isKind(nothing) {
		switch {
		case p.skip("class"):
			b.Classes = append(b.Classes, p.class())
		case p.skip("rule"):
			b.Rules = append(b.Rules, p.rule())
		case p.skip("query"):
			b.Queries = append(b.Queries, p.query())
		default:
			p.bar()
		}
	}
	return b
}

func (p *parser) class() api.Class {
	c := api.Class{Name: p.name()}
	if p.skip("extends") {
		c.Super = p.name()
	}
	p.within("{", "}", func() {
		for !p.is("}") {
			if len(c.Fields) > 0 {
				p.skip(",")
			}
			c.Fields = append(c.Fields, p.field())
		}
	})
	return c
}

func (p *parser) field() api.Field {
	f := api.Field{Name: p.name()}
	p.take(":")
	switch {
	case p.skip("int"):
		f.Type = api.TInt
	case p.skip("bool"):
		f.Type = api.TBool
	case p.skip("text"):
		f.Type = api.TText
	case p.skip("list"):
		f.Type = api.TList
	case p.skip("any"):
		f.Type = api.TAny
	case p.skip("ref"):
		f.Type, f.Class = api.TRef, p.name()
	default:
		p.bar()
	}
	return f
}

func (p *parser) rule() api.Rule {
	r := api.Rule{Name: p.text()}
	p.attrs(&r)
	p.take("when")
	for !p.skip("then") {
		r.When = append(r.When, p.cond())
	}
	for !p.skip("end") {
		r.Then = append(r.Then, p.action())
	}
	return r
}

func (p *parser) attrs(r *api.Rule) {
	for {
		switch {
		case p.skip("salience"):
			r.Salience = p.salience()
		case p.skip("group"):
			r.Group = p.text()
		case p.skip("flow"):
			r.Flow = p.text()
		case p.skip("noloop"):
			r.NoLoop = true
		case p.skip("lock"):
			r.Lock = true
		default:
			return
		}
	}
}

func (p *parser) salience() int {
	if p.skip("-") {
		return -int(p.number(mostSalience))
	}
	return int(p.number(mostSalience))
}

func (p *parser) query() api.Query {
	q := api.Query{Name: p.name()}
	p.list("(", ")", func() { q.Params = append(q.Params, p.variable()) })
	for !p.skip("end") {
		q.When = append(q.When, p.cond())
	}
	return q
}
