package print_test

import (
	"strconv"
	"strings"

	"proctor/api"
	"proctor/lex"
)

// loose writes anything, whether it may be written or not, with parentheses around every expression and without a look at what has no place in the text. While no bound is near, what it tells is read as the same just of what may be written.
type loose struct{ strings.Builder }

func (w *loose) put(l ...string) {
	for _, s := range l {
		w.WriteString(s + "\n")
	}
}

func looseBase(b api.Base) string {
	w := &loose{}
	for _, q := range b.Queries {
		w.put("query", q.Name, "(")
		for i, s := range q.Params {
			w.put(","[:min(i, 1)], "$"+s)
		}
		w.put(")")
		w.conds(q.When)
		w.put("end")
	}
	for _, r := range b.Rules {
		w.put("rule", lex.Quote(r.Name))
		if r.Lock {
			w.put("lock")
		}
		if r.NoLoop {
			w.put("noloop")
		}
		w.put("flow", lex.Quote(r.Flow), "group", lex.Quote(r.Group), "salience", strconv.Itoa(r.Salience), "when")
		w.conds(r.When)
		w.put("then")
		for _, a := range r.Then {
			w.action(a)
		}
		w.put("end")
	}
	for _, c := range b.Classes {
		w.put("class", c.Name)
		if c.Super != "" {
			w.put("extends", c.Super)
		}
		w.put("{")
		for i, f := range c.Fields {
			w.put(","[:min(i, 1)], f.Name, ":", word(f.Type, "any", "bool", "int", "text", "list", "ref"), f.Class)
		}
		w.put("}")
	}
	return w.String()
}

func looseExpr(e api.Expr) string {
	w := &loose{}
	w.expr(e)
	return w.String()
}

func looseCond(c api.Cond) string {
	w := &loose{}
	w.cond(c)
	return w.String()
}

// word tells the word of a kind, or what no lexeme begins with.
func word(kind int, words ...string) string {
	if kind < 0 || kind >= len(words) {
		return "#"
	}
	return words[kind]
}

func (w *loose) conds(l []api.Cond) {
	for _, c := range l {
		w.cond(c)
	}
}

func (w *loose) cond(c api.Cond) {
	switch c.Kind {
	case api.CFact:
		if c.Var != "" {
			w.put("$"+c.Var, ":")
		}
		w.put(c.Class, "(")
		comma := ""
		for _, b := range c.Binds {
			w.put(comma, "$"+b.Var, ":", b.Field)
			comma = ","
		}
		for _, e := range c.Tests {
			w.put(comma)
			w.expr(e)
			comma = ","
		}
	case api.CNot, api.CExists:
		w.put(word(c.Kind-api.CNot, "not", "exists"), "(")
		w.conds(c.Conds)
	case api.CForall:
		w.put("forall", "(")
		w.conds(c.Conds)
		w.put(";")
		w.conds(c.Then)
	case api.COr:
		w.put("(")
		for i, l := range c.Alts {
			w.put("or"[:min(2*i, 2)])
			w.conds(l)
		}
	case api.CFrom:
		w.put("$"+c.Var, "from")
		w.expr(c.E)
		return
	case api.CEval:
		w.put("eval", "(")
		w.expr(c.E)
	case api.CAcc:
		w.put("acc", "(", "$"+c.Var, ":", c.Fn, "(")
		w.expr(c.E)
		w.put(")", "over")
		w.conds(c.Conds)
	case api.CQuery:
		w.put("?", c.Name, "(")
		for i, a := range c.Args {
			w.put(","[:min(i, 1)])
			if a.Var != "" {
				w.put("$"+a.Var, "?")
			} else {
				w.expr(a.E)
			}
		}
	}
	w.put(")")
}

func (w *loose) action(a api.Action) {
	w.put(word(a.Kind, "#", "insert", "logical", "update", "delete", "focus", "print", "halt"))
	switch a.Kind {
	case api.AInsert, api.ALogical, api.AUpdate:
		if a.Kind == api.AUpdate {
			w.expr(a.E)
		} else {
			w.put(a.Class)
		}
		w.put("{")
		for i, s := range a.Set {
			w.put(","[:min(i, 1)], s.Field, "=")
			w.expr(s.E)
		}
		w.put("}")
	case api.ADelete, api.APrint:
		w.expr(a.E)
	case api.AFocus:
		w.put(lex.Quote(a.Text))
	}
	w.put(";")
}

func (w *loose) expr(e api.Expr) {
	w.put("(")
	switch e.Op {
	case api.ELit:
		w.put(word(e.V.Kind, "null", strconv.FormatBool(e.V.Bool), strconv.FormatInt(e.V.Int, 10), lex.Quote(e.V.Text)))
	case api.EVar:
		w.put("$" + e.Text)
	case api.EField:
		w.put(e.Text)
	case api.EGet:
		w.operands(e.Args, "")
		w.put(".", e.Text)
	case api.EList:
		w.put("[")
		w.operands(e.Args, ",")
		w.put("]")
	case api.ENeg, api.ENot:
		w.put(word(e.Op-api.ENeg, "-", "!"))
		w.operands(e.Args, "")
	case api.ESize, api.EHas:
		w.put(word(e.Op-api.ESize, "size", "has"), "(")
		w.operands(e.Args, ",")
		w.put(")")
	default:
		w.operands(e.Args, word(e.Op-api.EAnd, "&&", "||", "==", "!=", "<", "<=", ">", ">=", "+", "-", "*", "/", "%"))
	}
	w.put(")")
}

func (w *loose) operands(l []api.Expr, between string) {
	for i, e := range l {
		if i > 0 {
			w.put(between)
		}
		w.expr(e)
	}
}
