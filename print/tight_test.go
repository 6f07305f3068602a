package print_test

import (
	"testing"

	"proctor/api"
)

// shape is a kind of expression, written by hand: its text around operands, and the level of the grammar by which it is read.
type shape struct {
	make  func(args ...api.Expr) api.Expr
	write func(args ...string) string
	args  int
	level int
}

// The levels of the chapter's grammar.
const (
	levelExpr = iota
	levelAnd
	levelComp
	levelSum
	levelProd
	levelSign
	levelPost
	levelAtom
)

func shapes() []shape {
	var l []shape
	for mark, of := range map[string][2]int{
		"||": {api.EOr, levelExpr}, "&&": {api.EAnd, levelAnd},
		"==": {api.EEq, levelComp}, "!=": {api.ENe, levelComp}, "<": {api.ELt, levelComp}, "<=": {api.ELe, levelComp}, ">": {api.EGt, levelComp}, ">=": {api.EGe, levelComp},
		"+": {api.EAdd, levelSum}, "-": {api.ESub, levelSum}, "*": {api.EMul, levelProd}, "/": {api.EDiv, levelProd}, "%": {api.EMod, levelProd},
	} {
		l = append(l, shape{func(a ...api.Expr) api.Expr { return op(of[0], a...) }, func(s ...string) string { return s[0] + " " + mark + " " + s[1] }, 2, of[1]})
	}
	for mark, kind := range map[string]int{"-": api.ENeg, "!": api.ENot} {
		l = append(l, shape{func(a ...api.Expr) api.Expr { return op(kind, a...) }, func(s ...string) string { return mark + " " + s[0] }, 1, levelSign})
	}
	return append(l,
		shape{func(a ...api.Expr) api.Expr { return get(a[0], "f") }, func(s ...string) string { return s[0] + " . f" }, 1, levelPost},
		shape{func(a ...api.Expr) api.Expr { return list(a...) }, func(s ...string) string { return "[ " + s[0] + " , " + s[1] + " ]" }, 2, levelAtom},
		shape{func(a ...api.Expr) api.Expr { return op(api.ESize, a...) }, func(s ...string) string { return "size ( " + s[0] + " )" }, 1, levelAtom},
		shape{func(a ...api.Expr) api.Expr { return op(api.EHas, a...) }, func(s ...string) string { return "has ( " + s[0] + " , " + s[1] + " )" }, 2, levelAtom},
		shape{func(...api.Expr) api.Expr { return variable("v") }, func(...string) string { return "$v" }, 0, levelAtom},
		shape{func(...api.Expr) api.Expr { return num(1) }, func(...string) string { return "1" }, 0, levelAtom},
		shape{func(...api.Expr) api.Expr { return list() }, func(...string) string { return "[ ]" }, 0, levelAtom},
	)
}

// place tells the level that the grammar asks for at a side of a shape.
func place(s shape, side int) int {
	switch s.level {
	case levelExpr, levelAnd, levelSum, levelProd:
		return s.level + side
	case levelComp:
		return levelSum
	case levelSign, levelPost:
		return s.level
	}
	return levelExpr
}

// P6.1, P6.2: parentheses just where they are needed: each kind of expression at each side of each other one.
func TestParentheses(t *testing.T) {
	for _, outer := range shapes() {
		for side := range outer.args {
			for _, inner := range shapes() {
				args, texts := []api.Expr{field("a"), field("b")}[:outer.args], []string{"a", "b"}
				args[side] = inner.make([]api.Expr{field("c"), field("d")}[:inner.args]...)
				texts[side] = inner.write("c", "d")
				if inner.level < place(outer, side) {
					texts[side] = "( " + texts[side] + " )"
				}
				writesExpr(t, outer.make(args...), outer.write(texts...))
			}
		}
	}
}

// P6.1, P6.2: what stands three deep.
func TestParenthesesDeep(t *testing.T) {
	for _, s := range []string{
		"a || b && c == d + e * - f . g", "( ( ( ( a || b ) && c ) == d ) + e ) * - f . g", "( - ( ( a || b ) * c ) ) . g", "! ( a && b ) || ! a && b", "! ( a == b ) == c",
		"- ( - a ) . b", "( ! ( a . b + c ) ) . d . e", "a - ( b + ( c - d ) ) - e", "a * ( b / ( c % d ) ) / e", "a + b * ( c + d ) + e", "( a + b ) * ( c - d )", "a || ( b || c ) || d", "a && ( b && c ) && d",
		"( a < b ) == ( c < d ) && ( e != f ) != g", "[ a , ( b || c ) && d , - [ - 1 ] ]", "size ( ( a + b ) . c ) * has ( a , b || c ) . d", "( a || b ) . c || d", "( 1 + 2 ) . a . b + 3", "- - ! ! a", "a - - - b", "a - - ( b - c )",
	} {
		rewritesExpr(t, s, s)
		rewritesExpr(t, "(("+s+"))", s)
	}
	for s, want := range map[string]string{
		"(a || b) || c": "a || b || c", "(a && b) && c": "a && b && c", "((a - b)) - (c)": "a - b - c", "(a * b) / c": "a * b / c", "(a && b) || (c && d)": "a && b || c && d",
		"(a + 1) == (b * 2)": "a + 1 == b * 2", "(-a) * (!b)": "- a * ! b", "-(a.b)": "- a . b", "(a.b).c": "a . b . c", "-(-(a))": "- - a", "([a]).b": "[ a ] . b", "[(a || b)]": "[ a || b ]", "size((a))": "size ( a )",
	} {
		rewritesExpr(t, s, want)
	}
}

// P6.1: an expression as a whole has none around it, wherever it stands.
func TestParenthesesAround(t *testing.T) {
	for _, s := range shapes() {
		e, text := s.make([]api.Expr{field("c"), field("d")}[:s.args]...), s.write("c", "d")
		writesCond(t, pattern("P", e, e), "P ( "+text+" , "+text+" )")
		writesCond(t, from(e), "$x from "+text)
		writesCond(t, api.Cond{Kind: api.CEval, E: e}, "eval ( "+text+" )")
		writesCond(t, api.Cond{Kind: api.CAcc, Var: "s", Fn: "sum", E: e, Conds: conds(p())}, "acc ( $s : sum ( "+text+" ) over P ( ) )")
		writesCond(t, api.Cond{Kind: api.CQuery, Name: "q", Args: []api.Arg{{E: e}, {E: e}}}, "? q ( "+text+" , "+text+" )")
		writesAction(t, api.Action{Kind: api.AInsert, Class: "P", Set: []api.Assign{{Field: "x", E: e}}}, "insert P { x = "+text+" } ;")
		writesAction(t, api.Action{Kind: api.AUpdate, E: e, Set: []api.Assign{{Field: "x", E: e}}}, "update "+text+" { x = "+text+" } ;")
		writesAction(t, api.Action{Kind: api.ADelete, E: e}, "delete "+text+" ;")
		writesAction(t, show(e), "print "+text+" ;")
	}
}
