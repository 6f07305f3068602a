package parse_test

import (
	"math"
	"math/rand"
	"strings"
	"testing"

	"proctor/api"
	"proctor/lex"
)

// maker makes bases by chance.
type maker struct{ *rand.Rand }

func (m maker) pick(l ...string) string { return l[m.Intn(len(l))] }

func (m maker) one(l ...int) int { return l[m.Intn(len(l))] }

func (m maker) name() string {
	return m.pick("a", "B", "x_1", "count", "sum", "End", strings.Repeat("n", 64))
}

func (m maker) word() string {
	return m.pick("a", "b", "end", "from", "x_2", strings.Repeat("v", 64))
}

func (m maker) text() string {
	return m.pick("", "main", "a\"b\\c\n\td", "then", "\xff\x7f", "(", "//")
}

// expr makes an expression that is deep deep.
func (m maker) expr(deep int) api.Expr {
	if deep <= 1 {
		return m.atom()
	}
	inner := m.expr(deep - 1)
	other := func() api.Expr { return m.expr(1 + m.Intn(min(deep-1, 2))) }
	switch m.Intn(6) {
	case 0:
		return get(inner, m.name())
	case 1:
		return op(m.one(api.ENeg, api.ENot, api.ESize), inner)
	case 2:
		return op(api.EHas, inner, other())
	case 3:
		return list(other(), inner, other())
	case 4:
		return op(api.EAnd+m.Intn(api.EMod-api.EAnd+1), inner, other())
	}
	return op(api.EAnd+m.Intn(api.EMod-api.EAnd+1), other(), inner)
}

func (m maker) atom() api.Expr {
	switch m.Intn(8) {
	case 0:
		return str(m.text())
	case 1:
		return truth(m.Intn(2) == 0)
	case 2:
		return lit(api.Value{})
	case 3, 4:
		return variable(m.word())
	case 5:
		return field(m.name())
	case 6:
		return list()
	}
	return num([]int64{0, 1, 42, math.MaxInt64}[m.Intn(4)])
}

func (m maker) some() api.Expr {
	if m.Intn(6) == 0 {
		return m.expr(27 + m.Intn(6))
	}
	return m.expr(1 + m.Intn(4))
}

func (m maker) conds(least, deep int) []api.Cond {
	var l []api.Cond
	for range least + m.Intn(2) {
		l = append(l, m.cond(deep))
	}
	return l
}

func (m maker) cond(deep int) api.Cond {
	kind := api.CFact + m.Intn(api.CQuery)
	if deep <= 1 {
		kind = m.one(api.CFact, api.CFrom, api.CEval, api.CQuery)
	}
	c := api.Cond{Kind: kind}
	switch kind {
	case api.CFact:
		c.Var, c.Class = m.pick("", m.word()), m.name()
		for range m.Intn(3) {
			c.Binds = append(c.Binds, api.Bind{Var: m.word(), Field: m.name()})
		}
		for range m.Intn(3) {
			c.Tests = append(c.Tests, m.some())
		}
	case api.CNot, api.CExists:
		c.Conds = m.conds(1, deep-1)
	case api.CForall:
		c.Conds, c.Then = m.conds(1, deep-1), m.conds(1, deep-1)
	case api.COr:
		for range 2 + m.Intn(2) {
			c.Alts = append(c.Alts, m.conds(1, deep-1))
		}
	case api.CFrom:
		c.Var, c.E = m.word(), m.some()
	case api.CEval:
		c.E = m.some()
	case api.CAcc:
		c.Var, c.Fn, c.E, c.Conds = m.word(), m.pick("list", m.name()), m.some(), m.conds(1, deep-1)
	case api.CQuery:
		c.Name = m.name()
		for range m.Intn(3) {
			if m.Intn(2) == 0 {
				c.Args = append(c.Args, api.Arg{Var: m.word()})
			} else {
				c.Args = append(c.Args, api.Arg{E: m.some()})
			}
		}
	}
	return c
}

func (m maker) action() api.Action {
	a := api.Action{Kind: api.AInsert + m.Intn(api.AHalt)}
	set := func(least int) {
		for range least + m.Intn(3) {
			a.Set = append(a.Set, api.Assign{Field: m.name(), E: m.some()})
		}
	}
	switch a.Kind {
	case api.AInsert, api.ALogical:
		a.Class = m.name()
		set(0)
	case api.AUpdate:
		a.E = m.some()
		set(1)
	case api.ADelete, api.APrint:
		a.E = m.some()
	case api.AFocus:
		a.Text = m.text()
	}
	return a
}

func (m maker) base() api.Base {
	var b api.Base
	for range m.Intn(3) {
		c := api.Class{Name: m.name(), Super: m.pick("", m.name())}
		for range m.Intn(4) {
			f := api.Field{Name: m.name(), Type: m.Intn(api.TRef + 1)}
			if f.Type == api.TRef {
				f.Class = m.name()
			}
			c.Fields = append(c.Fields, f)
		}
		b.Classes = append(b.Classes, c)
	}
	for range m.Intn(3) {
		r := api.Rule{Name: m.text(), Salience: m.one(0, 1, -1, 1<<31, -1<<31), Group: m.text(), Flow: m.pick("", m.text()), NoLoop: m.Intn(2) == 0, Lock: m.Intn(2) == 0, When: m.conds(0, 3)}
		for range m.Intn(3) {
			r.Then = append(r.Then, m.action())
		}
		b.Rules = append(b.Rules, r)
	}
	for range m.Intn(3) {
		q := api.Query{Name: m.name(), When: m.conds(0, 3)}
		for range m.Intn(3) {
			q.Params = append(q.Params, m.word())
		}
		b.Queries = append(b.Queries, q)
	}
	return b
}

// writer writes bases by the grammar, as loosely as it may be done by chance, and watches on its way what is open and how deep expressions are: fault is the lexeme of the first fault, or -1.
type writer struct {
	maker
	words []string
	open  int
	fault int
}

func (w *writer) put(l ...string) { w.words = append(w.words, l...) }

func (w *writer) push(s string) int {
	if w.open++; w.open > api.MaxDeep {
		w.bar(len(w.words))
	}
	w.put(s)
	return len(w.words) - 1
}

func (w *writer) bar(at int) {
	if w.fault < 0 {
		w.fault = at
	}
}

func (w *writer) pop(l ...string) {
	w.put(l...)
	w.open--
}

// tight tells how tightly an expression holds, by the grammar's levels, and how its operator is written.
func tight(e api.Expr) (int, string) {
	switch e.Op {
	case api.EOr:
		return 0, "||"
	case api.EAnd:
		return 1, "&&"
	case api.EEq, api.ENe, api.ELt, api.ELe, api.EGt, api.EGe:
		return 2, []string{"==", "!=", "<", "<=", ">", ">="}[e.Op-api.EEq]
	case api.EAdd, api.ESub:
		return 3, []string{"+", "-"}[e.Op-api.EAdd]
	case api.EMul, api.EDiv, api.EMod:
		return 4, []string{"*", "/", "%"}[e.Op-api.EMul]
	case api.ENeg:
		return 5, "-"
	case api.ENot:
		return 5, "!"
	case api.EGet:
		return 6, "."
	}
	return 7, ""
}

// expr writes e where what holds as tightly as least may stand, and tells how deep it is.
func (w *writer) expr(e api.Expr, least int) int {
	level, mark := tight(e)
	if level < least || w.Intn(20) == 0 {
		w.push("(")
		deep := w.expr(e, 0)
		w.pop(")")
		return deep
	}
	deep, at := 0, 0
	switch {
	case level < 5:
		left := level
		if level == 2 {
			left++
		}
		deep = w.expr(e.Args[0], left)
		at = len(w.words)
		w.put(mark)
		deep = max(deep, w.expr(e.Args[1], level+1))
	case level == 5:
		at = w.push(mark)
		deep = w.expr(e.Args[0], 5)
		w.pop()
	case level == 6:
		deep = w.expr(e.Args[0], 6)
		at = len(w.words)
		w.put(mark, e.Text)
	default:
		at = len(w.words)
		deep = w.atom(e)
	}
	if deep == api.MaxDeep {
		w.bar(at)
	}
	return deep + 1
}

func (w *writer) atom(e api.Expr) (deep int) {
	args := func(from, to string) {
		w.push(from)
		for i, a := range e.Args {
			if i > 0 {
				w.put(",")
			}
			deep = max(deep, w.expr(a, 0))
		}
		w.pop(to)
	}
	switch e.Op {
	case api.ELit:
		w.put(literal(e.V))
	case api.EVar:
		w.put("$" + e.Text)
	case api.EField:
		w.put(e.Text)
	case api.EList:
		args("[", "]")
	case api.ESize:
		w.put("size")
		args("(", ")")
	case api.EHas:
		w.put("has")
		args("(", ")")
	}
	return deep
}

func literal(v api.Value) string {
	switch v.Kind {
	case api.VInt:
		return number(v.Int)
	case api.VText:
		return lex.Quote(v.Text)
	case api.VBool:
		return map[bool]string{true: "true", false: "false"}[v.Bool]
	}
	return "null"
}

// number writes digits with noughts ahead, some.
func number(n int64) string {
	s := ""
	for ; n > 0 || s == ""; n /= 10 {
		s = string(rune('0'+n%10)) + s
	}
	return strings.Repeat("0", len(s)%3) + s
}

func (w *writer) conds(l []api.Cond) {
	for _, c := range l {
		w.cond(c)
	}
}

func (w *writer) cond(c api.Cond) {
	switch c.Kind {
	case api.CFact:
		w.pattern(c)
	case api.CNot, api.CExists:
		w.put(map[int]string{api.CNot: "not", api.CExists: "exists"}[c.Kind])
		w.push("(")
		w.conds(c.Conds)
		w.pop(")")
	case api.CForall:
		w.put("forall")
		w.push("(")
		w.conds(c.Conds)
		w.put(";")
		w.conds(c.Then)
		w.pop(")")
	case api.COr:
		w.push("(")
		for i, alt := range c.Alts {
			if i > 0 {
				w.put("or")
			}
			w.conds(alt)
		}
		w.pop(")")
	case api.CFrom:
		w.put("$"+c.Var, "from")
		w.expr(c.E, 0)
	case api.CEval:
		w.put("eval")
		w.parens(c.E)
	case api.CAcc:
		w.put("acc")
		w.push("(")
		w.put("$"+c.Var, ":", c.Fn)
		w.parens(c.E)
		w.put("over")
		w.conds(c.Conds)
		w.pop(")")
	case api.CQuery:
		w.question(c)
	}
}

func (w *writer) parens(e api.Expr) {
	w.push("(")
	w.expr(e, 0)
	w.pop(")")
}

// pattern mixes Binds and Tests, since each has an order of its own.
func (w *writer) pattern(c api.Cond) {
	if c.Var != "" {
		w.put("$"+c.Var, ":")
	}
	w.put(c.Class)
	w.push("(")
	binds, tests := c.Binds, c.Tests
	for first := true; len(binds)+len(tests) > 0; first = false {
		if !first {
			w.put(",")
		}
		if len(tests) == 0 || len(binds) > 0 && w.Intn(2) == 0 {
			w.put("$"+binds[0].Var, ":", binds[0].Field)
			binds = binds[1:]
		} else {
			w.expr(tests[0], 0)
			tests = tests[1:]
		}
	}
	w.pop(")")
}

func (w *writer) question(c api.Cond) {
	w.put("?", c.Name)
	w.push("(")
	for i, a := range c.Args {
		if i > 0 {
			w.put(",")
		}
		if a.E.Op == api.ENone {
			w.put("$"+a.Var, "?")
		} else {
			w.expr(a.E, 0)
		}
	}
	w.pop(")")
}

func (w *writer) action(a api.Action) {
	w.put([]string{"", "insert", "logical", "update", "delete", "focus", "print", "halt"}[a.Kind])
	if a.Class != "" {
		w.put(a.Class)
	}
	if a.E.Op != api.ENone {
		w.expr(a.E, 0)
	}
	if a.Kind == api.AFocus {
		w.put(lex.Quote(a.Text))
	}
	if a.Kind <= api.AUpdate {
		w.push("{")
		for i, s := range a.Set {
			if i > 0 {
				w.put(",")
			}
			w.put(s.Field, "=")
			w.expr(s.E, 0)
		}
		w.pop("}")
	}
	w.put(";")
}

func (w *writer) class(c api.Class) {
	w.put("class", c.Name)
	if c.Super != "" {
		w.put("extends", c.Super)
	}
	w.put("{")
	for i, f := range c.Fields {
		if i > 0 && w.Intn(2) == 0 {
			w.put(",")
		}
		w.put(f.Name, ":", []string{"any", "bool", "int", "text", "list", "ref"}[f.Type])
		if f.Type == api.TRef {
			w.put(f.Class)
		}
	}
	w.put("}")
}

// attrs writes, at times, what is zero, and others ahead of what holds.
func (w *writer) attrs(r api.Rule) {
	if w.Intn(3) == 0 {
		w.put("salience", "7", "flow", `"other"`, "group", `"other"`, "salience", "-", "7")
	} else if r.Salience == 0 && r.Group == "" && r.Flow == "" && !r.NoLoop && !r.Lock {
		return
	}
	if r.NoLoop {
		w.put("noloop")
	}
	w.put("flow", lex.Quote(r.Flow), "salience")
	if r.Salience < 0 {
		w.put("-")
	}
	w.put(number(int64(max(r.Salience, -r.Salience))))
	if r.Lock {
		w.put("lock", "lock")
	}
	w.put("group", lex.Quote(r.Group))
}

// base writes the declarations mixed, since each kind has an order of its own.
func (w *writer) base(b api.Base) {
	for len(b.Classes)+len(b.Rules)+len(b.Queries) > 0 {
		switch i := w.Intn(3); {
		case i == 0 && len(b.Classes) > 0:
			w.class(b.Classes[0])
			b.Classes = b.Classes[1:]
		case i == 1 && len(b.Rules) > 0:
			r := b.Rules[0]
			b.Rules = b.Rules[1:]
			w.put("rule", lex.Quote(r.Name))
			w.attrs(r)
			w.put("when")
			w.conds(r.When)
			w.put("then")
			for _, a := range r.Then {
				w.action(a)
			}
			w.put("end")
		case i == 2 && len(b.Queries) > 0:
			q := b.Queries[0]
			b.Queries = b.Queries[1:]
			w.put("query", q.Name, "(")
			if len(q.Params) > 0 {
				w.put("$" + strings.Join(q.Params, " , $"))
			}
			w.put(")")
			w.conds(q.When)
			w.put("end")
		}
	}
}

// whole tells what is written, and the place of the first fault, or -1.
func (w *writer) whole() (string, int) {
	var b strings.Builder
	at := -1
	for i, s := range w.words {
		if i == w.fault {
			at = b.Len()
		}
		b.WriteString(s + w.pick(" ", " ", "\n", "\t", "\r\n", " // a \" remark )\n"))
	}
	return b.String(), at
}

// P5.1, P5.3: every base, written however it may be, is read as that base; or barred where too much is open, or an expression becomes too deep.
func TestWritten(t *testing.T) {
	m := maker{rand.New(rand.NewSource(1))}
	fine, faulty := 0, 0
	for range 3000 {
		b := m.base()
		w := &writer{maker: m, fault: -1}
		w.base(b)
		s, at := w.whole()
		switch {
		case len(w.words) > api.MaxLex || len(s) > api.MaxText:
		case at < 0:
			fine++
			reads(t, s, b)
		default:
			faulty++
			barred(t, s, at)
		}
	}
	if fine < 1000 || faulty < 500 {
		t.Errorf("%d are read, %d barred: too few of them", fine, faulty)
	}
}

// P5.2, P5.3: so is every expression.
func TestWrittenExpr(t *testing.T) {
	m := maker{rand.New(rand.NewSource(2))}
	fine, faulty := 0, 0
	for i := range 6000 {
		e := m.expr(1 + i%34)
		w := &writer{maker: m, fault: -1}
		w.expr(e, 0)
		s, at := w.whole()
		if at < 0 {
			fine++
			readsExpr(t, s, e)
		} else {
			faulty++
			barredExpr(t, s, at)
		}
	}
	if fine < 2000 || faulty < 500 {
		t.Errorf("%d are read, %d barred: too few of them", fine, faulty)
	}
}
