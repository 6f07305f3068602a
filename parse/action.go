package parse

import "proctor/api"

func (p *parser) action() api.Action {
	a := p.deed()
	p.take(";")
	return a
}

// deed is an action without the mark that ends it.
func (p *parser) deed() api.Action {
	switch {
	case p.skip("insert"):
		return p.insertion(api.AInsert)
	case p.skip("logical"):
		return p.insertion(api.ALogical)
	case p.skip("update"):
		return p.update()
	case p.skip("delete"):
		return api.Action{Kind: api.ADelete, E: p.expr()}
	case p.skip("focus"):
		return api.Action{Kind: api.AFocus, Text: p.text()}
	case p.skip("print"):
		return api.Action{Kind: api.APrint, E: p.expr()}
	}
	p.take("halt")
	return api.Action{Kind: api.AHalt}
}

func (p *parser) insertion(kind int) api.Action {
	a := api.Action{Kind: kind, Class: p.name()}
	p.list("{", "}", func() { a.Set = append(a.Set, p.assign()) })
	return a
}

func (p *parser) update() api.Action {
	a := api.Action{Kind: api.AUpdate, E: p.expr()}
	p.within("{", "}", func() {
		p.commas(func() { a.Set = append(a.Set, p.assign()) })
	})
	return a
}

func (p *parser) assign() api.Assign {
	a := api.Assign{Field: p.name()}
	p.take("=")
	a.E = p.expr()
	return a
}
