package parse

import (
	"math"

	"proctor/api"
	"proctor/lex"
)

// comparing is the level at which one operator may stand, and no more.
const comparing = 2

// levels tells the operators of two operands, level by level: those that hold least tightly first.
func levels() []map[string]int {
	return []map[string]int{
		{"||": api.EOr},
		{"&&": api.EAnd},
		{"==": api.EEq, "!=": api.ENe, "<": api.ELt, "<=": api.ELe, ">": api.EGt, ">=": api.EGe},
		{"+": api.EAdd, "-": api.ESub},
		{"*": api.EMul, "/": api.EDiv, "%": api.EMod},
	}
}

// tree is an expression with its depth beside it, so that nobody has to go through it again.
type tree struct {
	api.Expr
	deep int
}

func leaf(e api.Expr) tree { return tree{Expr: e, deep: 1} }

// node makes an expression of others; if it becomes too deep by that, at is barred.
func node(at int, e api.Expr, args ...tree) tree {
	deep := 1
	for _, a := range args {
		e.Args = append(e.Args, a.Expr)
		deep = max(deep, a.deep+1)
	}
	if deep > api.MaxDeep {
		barAt(at)
	}
	return tree{Expr: e, deep: deep}
}

func (p *parser) expr() api.Expr { return p.tree().Expr }

func (p *parser) tree() tree { return p.level(0) }

func (p *parser) level(n int) tree {
	if n == len(p.levels) {
		return p.sign()
	}
	left := p.level(n + 1)
	for op, is := p.operator(n); is; op, is = p.operator(n) {
		at := p.next().At
		left = node(at, api.Expr{Op: op}, left, p.level(n+1))
		if n == comparing {
			break
		}
	}
	return left
}

// operator asks for a mark: a text may say the same.
func (p *parser) operator(n int) (int, bool) {
	if !p.isKind(lex.Mark) {
		return 0, false
	}
	op, is := p.levels[n][p.rest[0].Text]
	return op, is
}

func (p *parser) sign() tree {
	switch {
	case p.is("-"):
		return p.signed("-", api.ENeg)
	case p.is("!"):
		return p.signed("!", api.ENot)
	}
	return p.post()
}

func (p *parser) signed(mark string, op int) tree {
	at := p.push(mark)
	operand := p.sign()
	p.pop()
	return node(at, api.Expr{Op: op}, operand)
}

func (p *parser) post() tree {
	e := p.atom()
	for p.is(".") {
		at := p.next().At
		e = node(at, api.Expr{Op: api.EGet, Text: p.name()}, e)
	}
	return e
}

func (p *parser) atom() tree {
	switch {
	case p.isKind(lex.Int):
		return literal(api.Value{Kind: api.VInt, Int: p.number(math.MaxInt64)})
	case p.isKind(lex.Text):
		return literal(api.Value{Kind: api.VText, Text: p.text()})
	case p.skip("true"):
		return literal(api.Value{Kind: api.VBool, Bool: true})
	case p.skip("false"):
		return literal(api.Value{Kind: api.VBool})
	case p.skip("null"):
		return literal(api.Value{Kind: api.VNull})
	case p.isKind(lex.Var):
		return leaf(api.Expr{Op: api.EVar, Text: p.variable()})
	case p.is("("):
		return p.inParentheses()
	case p.is("["):
		return p.values()
	case p.is("size"):
		return p.size()
	case p.is("has"):
		return p.has()
	}
	return leaf(api.Expr{Op: api.EField, Text: p.name()})
}

func literal(v api.Value) tree { return leaf(api.Expr{Op: api.ELit, V: v}) }

func (p *parser) inParentheses() (e tree) {
	p.within("(", ")", func() { e = p.tree() })
	return e
}

func (p *parser) values() tree {
	at := p.rest[0].At
	var l []tree
	p.list("[", "]", func() { l = append(l, p.tree()) })
	return node(at, api.Expr{Op: api.EList}, l...)
}

func (p *parser) size() tree {
	at := p.next().At
	return node(at, api.Expr{Op: api.ESize}, p.inParentheses())
}

func (p *parser) has() tree {
	at := p.next().At
	var l, v tree
	p.within("(", ")", func() {
		l = p.tree()
		p.take(",")
		v = p.tree()
	})
	return node(at, api.Expr{Op: api.EHas}, l, v)
}
