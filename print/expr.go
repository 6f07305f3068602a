package print

import (
	"strconv"

	"proctor/api"
)

// How tightly an operator holds its operands together. A place asks for some tightness: what holds less tightly stands there in parentheses.
const (
	loosest = iota
	conjunction
	comparison
	sum
	product
	sign
	post
	atom
)

func tightness(op int) int {
	switch op {
	case api.EOr:
		return loosest
	case api.EAnd:
		return conjunction
	case api.EEq, api.ENe, api.ELt, api.ELe, api.EGt, api.EGe:
		return comparison
	case api.EAdd, api.ESub:
		return sum
	case api.EMul, api.EDiv, api.EMod:
		return product
	case api.ENeg, api.ENot:
		return sign
	case api.EGet:
		return post
	}
	return atom
}

// mark tells how an operator is written; of all that has no mark the empty text.
func mark(op int) string {
	marks := [...]string{
		api.ENeg: "-", api.ENot: "!", api.EAnd: "&&", api.EOr: "||",
		api.EEq: "==", api.ENe: "!=", api.ELt: "<", api.ELe: "<=", api.EGt: ">", api.EGe: ">=",
		api.EAdd: "+", api.ESub: "-", api.EMul: "*", api.EDiv: "/", api.EMod: "%",
	}
	if op < 0 || op >= len(marks) {
		return ""
	}
	return marks[op]
}

func (w *writer) expr(e api.Expr) { w.exprAt(loosest, e) }

func (w *writer) exprAt(asks int, e api.Expr) {
	barUnless(w.deep < api.MaxDeep)
	w.deep++
	if tightness(e.Op) < asks {
		w.within("(", ")", func() { w.bare(e) })
	} else {
		w.bare(e)
	}
	w.deep--
}

// bare writes an expression without parentheses around it. What it writes it takes out of rest: what is left there would be lost, so it must be none.
func (w *writer) bare(e api.Expr) {
	rest := e
	rest.Op = api.ENone
	switch e.Op {
	case api.ELit:
		rest.V = api.Value{}
		w.literal(e.V)
	case api.EVar:
		rest.Text = ""
		w.variable(e.Text)
	case api.EField:
		rest.Text = ""
		w.name(e.Text)
	case api.EGet:
		rest.Text, rest.Args = "", nil
		w.get(e)
	default:
		rest.Args = nil
		w.operation(e)
	}
	barUnless(isNoExpr(rest))
}

// operation writes what is of its operands alone.
func (w *writer) operation(e api.Expr) {
	switch e.Op {
	case api.EList:
		w.within("[", "]", func() { commas(w, e.Args, w.expr) })
	case api.ESize:
		w.call("size", operands(e, 1))
	case api.EHas:
		w.call("has", operands(e, 2))
	case api.ENeg, api.ENot:
		w.signed(mark(e.Op), operands(e, 1)[0])
	default:
		w.infix(e)
	}
}

// operands tells the operands of e, which must be so many.
func operands(e api.Expr, many int) []api.Expr {
	barUnless(len(e.Args) == many)
	return e.Args
}

func (w *writer) get(e api.Expr) {
	w.exprAt(post, operands(e, 1)[0])
	w.put(".")
	w.name(e.Text)
}

func (w *writer) call(word string, args []api.Expr) {
	w.put(word)
	w.within("(", ")", func() { commas(w, args, w.expr) })
}

func (w *writer) signed(mark string, operand api.Expr) {
	w.push(mark)
	w.exprAt(sign, operand)
	w.pop()
}

// infix writes an operator of two operands: those that are as tight group from the left, but for comparisons, which don't group at all.
func (w *writer) infix(e api.Expr) {
	word := mark(e.Op)
	barUnless(word != "")
	l := operands(e, 2)
	left := tightness(e.Op)
	right := left + 1
	if left == comparison {
		left = right
	}
	w.exprAt(left, l[0])
	w.put(word)
	w.exprAt(right, l[1])
}

func (w *writer) literal(v api.Value) {
	rest := v
	rest.Kind = api.VNull
	switch v.Kind {
	case api.VNull:
		w.put("null")
	case api.VBool:
		rest.Bool = false
		w.put(strconv.FormatBool(v.Bool))
	case api.VInt:
		rest.Int = 0
		w.number(v.Int)
	case api.VText:
		rest.Text = ""
		w.text(v.Text)
	default:
		bar()
	}
	barUnless(isNull(rest))
}

func isNull(v api.Value) bool {
	return v.Kind == api.VNull && !v.Bool && v.Int == 0 && v.Text == "" && len(v.List) == 0
}

func isNoExpr(e api.Expr) bool {
	return e.Op == api.ENone && e.Text == "" && isNull(e.V) && len(e.Args) == 0
}
