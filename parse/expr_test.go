package parse_test

import (
	"math"
	"strings"
	"testing"

	"proctor/api"
)

// P5.2: what each atom becomes.
func TestAtoms(t *testing.T) {
	readsExpr(t, "0", num(0))
	readsExpr(t, "42", num(42))
	readsExpr(t, `"a\"\\\n\tb"`, str("a\"\\\n\tb"))
	readsExpr(t, `""`, str(""))
	readsExpr(t, "true", truth(true))
	readsExpr(t, "false", truth(false))
	readsExpr(t, "null", lit(api.Value{}))
	readsExpr(t, "$a", variable("a"))
	readsExpr(t, "$rule", variable("rule"))
	readsExpr(t, "a", field("a"))
	readsExpr(t, "count", field("count"))
	readsExpr(t, "True", field("True"))
	readsExpr(t, "[]", list())
	readsExpr(t, "[1]", list(num(1)))
	readsExpr(t, "[a, [$b, []], 3]", list(field("a"), list(variable("b"), list()), num(3)))
	readsExpr(t, "size(a)", op(api.ESize, field("a")))
	readsExpr(t, "has(a, 1)", op(api.EHas, field("a"), num(1)))
	readsExpr(t, "(a)", field("a"))
	readsExpr(t, "((a))", field("a"))
	readsExpr(t, " // ahead\n a // behind", field("a"))
}

// P5.2: `.` asks the fact in front of it, whatever stands there.
func TestGets(t *testing.T) {
	readsExpr(t, "$p.x", get(variable("p"), "x"))
	readsExpr(t, "$p . x . y", get(get(variable("p"), "x"), "y"))
	readsExpr(t, "a.b", get(field("a"), "b"))
	readsExpr(t, "1.a", get(num(1), "a"))
	readsExpr(t, `"t".a`, get(str("t"), "a"))
	readsExpr(t, "null.a", get(lit(api.Value{}), "a"))
	readsExpr(t, "[].a", get(list(), "a"))
	readsExpr(t, "size(a).b", get(op(api.ESize, field("a")), "b"))
	readsExpr(t, "(a + b).c", get(op(api.EAdd, field("a"), field("b")), "c"))
	readsExpr(t, "-a.b", op(api.ENeg, get(field("a"), "b")))
	readsExpr(t, "(-a).b", get(op(api.ENeg, field("a")), "b"))
	for _, s := range []string{"a.^", "a.^1", "a.^$b", "a.^size", "a.^(b)", "a.^.b", "^.b", "a.^true"} {
		barredExprHere(t, s)
	}
}

// P5.2: each operator and how tightly it holds.
func TestOperators(t *testing.T) {
	a, b, c := field("a"), field("b"), field("c")
	levels := [][]string{{"||"}, {"&&"}, {"==", "!=", "<", "<=", ">", ">="}, {"+", "-"}, {"*", "/", "%"}}
	ops := [][]int{{api.EOr}, {api.EAnd}, {api.EEq, api.ENe, api.ELt, api.ELe, api.EGt, api.EGe}, {api.EAdd, api.ESub}, {api.EMul, api.EDiv, api.EMod}}
	for i, marks := range levels {
		for j, x := range marks {
			readsExpr(t, "a "+x+" b", op(ops[i][j], a, b))
			readsExpr(t, "a "+x+" -b", op(ops[i][j], a, op(api.ENeg, b)))
			readsExpr(t, "!a "+x+" b", op(ops[i][j], op(api.ENot, a), b))
			readsExpr(t, "a "+x+" (b "+x+" c)", op(ops[i][j], a, op(ops[i][j], b, c)))
			for k, others := range levels {
				for n, y := range others {
					s := "a " + x + " b " + y + " c"
					switch {
					case k > i:
						readsExpr(t, s, op(ops[i][j], a, op(ops[k][n], b, c)))
					case k == i && i == 2:
						barredExpr(t, s, len("a "+x+" b "))
					default:
						readsExpr(t, s, op(ops[k][n], op(ops[i][j], a, b), c))
					}
				}
			}
		}
	}
}

// P5.2: what is as tight groups from the left; signs from the right.
func TestGroups(t *testing.T) {
	a, b, c, d := field("a"), field("b"), field("c"), field("d")
	readsExpr(t, "a - b + c - d", op(api.ESub, op(api.EAdd, op(api.ESub, a, b), c), d))
	readsExpr(t, "a / b * c % d", op(api.EMod, op(api.EMul, op(api.EDiv, a, b), c), d))
	readsExpr(t, "a || b || c", op(api.EOr, op(api.EOr, a, b), c))
	readsExpr(t, "a && b && c", op(api.EAnd, op(api.EAnd, a, b), c))
	readsExpr(t, "a || b && c == d", op(api.EOr, a, op(api.EAnd, b, op(api.EEq, c, d))))
	readsExpr(t, "a == b && c < d", op(api.EAnd, op(api.EEq, a, b), op(api.ELt, c, d)))
	readsExpr(t, "(a == b) == c", op(api.EEq, op(api.EEq, a, b), c))
	readsExpr(t, "a < (b < c)", op(api.ELt, a, op(api.ELt, b, c)))
	readsExpr(t, "- ! - a", op(api.ENeg, op(api.ENot, op(api.ENeg, a))))
	readsExpr(t, "--a - -b", op(api.ESub, op(api.ENeg, op(api.ENeg, a)), op(api.ENeg, b)))
	readsExpr(t, "!a == b", op(api.EEq, op(api.ENot, a), b))
	readsExpr(t, "!(a == b)", op(api.ENot, op(api.EEq, a, b)))
	readsExpr(t, "-a * b", op(api.EMul, op(api.ENeg, a), b))
	readsExpr(t, "[a || b, -c]", list(op(api.EOr, a, b), op(api.ENeg, c)))
	readsExpr(t, "has(a || b, c - d)", op(api.EHas, op(api.EOr, a, b), op(api.ESub, c, d)))
	readsExpr(t, "size(a + b) > 1", op(api.EGt, op(api.ESize, op(api.EAdd, a, b)), num(1)))
}

// P5.2: the ends of numbers; a - ahead is an operator like any other.
func TestNumbers(t *testing.T) {
	readsExpr(t, "9223372036854775807", num(math.MaxInt64))
	readsExpr(t, "-9223372036854775807", op(api.ENeg, num(math.MaxInt64)))
	readsExpr(t, "-0", op(api.ENeg, num(0)))
	readsExpr(t, "007", num(7))
	readsExpr(t, strings.Repeat("0", 60000)+"9223372036854775807", num(math.MaxInt64))
	readsExpr(t, "2147483649", num(2147483649))
	for _, s := range []string{"^9223372036854775808", "-^9223372036854775808", "1 + ^18446744073709551616", "^0009223372036854775808 +", "[1, ^" + strings.Repeat("9", 60000) + ", )", "a ^9223372036854775808"} {
		barredExprHere(t, s)
	}
}

// P5.2: the first lexeme that can't stand there; the text's length, if it ends too early.
func TestExprFaults(t *testing.T) {
	for _, s := range []string{
		"^", " ^", "// a^", "a ^b", "a ^1", "a ^$b", "a ^)", "a^]", "a^, b", "a ^= b", "a ^: b", "a ^? b", "$a ^?", "$a ^: b",
		"^)", "^]", "^+ a", "^* a", "^== a", "a + ^", "a + ^)", "a * ^/ b", "a || ^|| b", "a == b ^== c", "a < b ^>= c", "a == b && c != d ^< e",
		"-^", "!^", "- ^)", "^!= a", "-^+ a", "(^)", "(a^", "(a ^b)", "(a^]", "(a^, b)", "(^)",
		"[^", "[1^", "[1,^", "[1, ^]", "[^, 1]", "[1 ^2]", "[1^)", "[1, ^, 2]",
		"size^", "size ^1", "size ^[a]", "size(^)", "size(a^, b)", "size(a^", "has ^a", "has(^)", "has(a^)", "has(a, ^)", "has(a, b^, c)", "has(a ^b)", "has(^, b)",
		"^class", "^int", "^list", "^from", "size2 ^2", "a + ^rule", "^when", "^ref", "^any", "^over", "^then", "^{ }", "a ^{", "a ^;", "^?", "^:",
	} {
		barredExprHere(t, s)
	}
}

// P5.2: a text or a var that says what a keyword or a mark does is none.
func TestTextsAreNoMarks(t *testing.T) {
	readsExpr(t, `"true"`, str("true"))
	readsExpr(t, `"-" + "("`, op(api.EAdd, str("-"), str("(")))
	readsExpr(t, "$true + $size", op(api.EAdd, variable("true"), variable("size")))
	for _, s := range []string{`a ^"+" b`, `a ^"." b`, `size ^"(" a)`, `[1^"," 2]`, `[1 ^"]"`, `(a ^")"`, `a.^"b"`, "a ^$and b", "$has^(a, b)"} {
		barredExprHere(t, s)
	}
}
