package print_test

import (
	"math"
	"math/rand"
	"reflect"
	"strings"
	"testing"

	"proctor/api"
	"proctor/lex"
	"proctor/parse"
	"proctor/print"
)

// maker makes bases by chance.
type maker struct{ *rand.Rand }

func (m maker) pick(l ...string) string { return l[m.Intn(len(l))] }

func (m maker) one(l ...int) int { return l[m.Intn(len(l))] }

func (m maker) name() string { return m.pick("a", "B", "x_1", "sum", "End") }

func (m maker) word() string { return m.pick("a", "b", "end", "from") }

func (m maker) text() string { return m.pick("", "main", "a\"b\\c\n\td", "then", "\xff\x7f", "//") }

// expr makes an expression that is deep deep.
func (m maker) expr(deep int) api.Expr {
	if deep <= 1 {
		return m.atom()
	}
	inner, other := m.expr(deep-1), m.expr(1+m.Intn(min(deep-1, 3)))
	if m.Intn(2) == 0 {
		inner, other = other, inner
	}
	switch m.Intn(7) {
	case 0:
		return get(inner, m.name())
	case 1, 2:
		return op(m.one(api.ENeg, api.ENot, api.ESize), inner)
	case 3:
		return op(api.EHas, inner, other)
	case 4:
		return list([]api.Expr{inner, other, inner}[:m.Intn(4)]...)
	}
	return op(api.EAnd+m.Intn(api.EMod-api.EAnd+1), inner, other)
}

func (m maker) atom() api.Expr {
	switch m.Intn(8) {
	case 0:
		return str(m.text())
	case 1:
		return truth(m.Intn(2) == 0)
	case 2:
		return lit(api.Value{})
	case 3, 4:
		return variable(m.word())
	case 5:
		return field(m.name())
	case 6:
		return list()
	}
	return num([]int64{0, 1, 42, math.MaxInt64}[m.Intn(4)])
}

func (m maker) some() api.Expr { return m.expr(1 + m.Intn(3)) }

func (m maker) conds(least, deep int) []api.Cond {
	var l []api.Cond
	for range least + m.Intn(2) {
		l = append(l, m.cond(deep))
	}
	return l
}

func (m maker) cond(deep int) api.Cond {
	c := api.Cond{Kind: api.CFact + m.Intn(api.CQuery)}
	if deep <= 1 {
		c.Kind = m.one(api.CFact, api.CFrom, api.CEval, api.CQuery)
	}
	switch c.Kind {
	case api.CFact:
		c.Var, c.Class = m.pick("", m.word()), m.name()
		for range m.Intn(3) {
			c.Binds = append(c.Binds, api.Bind{Var: m.word(), Field: m.name()})
		}
		for range m.Intn(3) {
			c.Tests = append(c.Tests, m.some())
		}
	case api.CNot, api.CExists:
		c.Conds = m.conds(1, deep-1)
	case api.CForall:
		c.Conds, c.Then = m.conds(1, deep-1), m.conds(1, deep-1)
	case api.COr:
		for range 2 + m.Intn(2) {
			c.Alts = append(c.Alts, m.conds(1, deep-1))
		}
	case api.CFrom:
		c.Var, c.E = m.word(), m.some()
	case api.CEval:
		c.E = m.some()
	case api.CAcc:
		c.Var, c.Fn, c.E, c.Conds = m.word(), m.pick("list", m.name()), m.some(), m.conds(1, deep-1)
	case api.CQuery:
		c.Name = m.name()
		for range m.Intn(3) {
			c.Args = append(c.Args, []api.Arg{{Var: m.word()}, {E: m.some()}}[m.Intn(2)])
		}
	}
	return c
}

func (m maker) action() api.Action {
	a := api.Action{Kind: api.AInsert + m.Intn(api.AHalt)}
	switch a.Kind {
	case api.AInsert, api.ALogical:
		a.Class, a.Set = m.name(), m.set(0)
	case api.AUpdate:
		a.E, a.Set = m.some(), m.set(1)
	case api.ADelete, api.APrint:
		a.E = m.some()
	case api.AFocus:
		a.Text = m.text()
	}
	return a
}

func (m maker) set(least int) []api.Assign {
	var l []api.Assign
	for range least + m.Intn(3) {
		l = append(l, api.Assign{Field: m.name(), E: m.some()})
	}
	return l
}

func (m maker) class() api.Class {
	c := api.Class{Name: m.name(), Super: m.pick("", m.name())}
	for range m.Intn(4) {
		f := api.Field{Name: m.name(), Type: m.Intn(api.TRef + 1)}
		if f.Type == api.TRef {
			f.Class = m.name()
		}
		c.Fields = append(c.Fields, f)
	}
	return c
}

func (m maker) rule() api.Rule {
	r := api.Rule{Name: m.text(), Salience: m.one(0, 1, -1, 1<<31, -1<<31), Group: m.text(), Flow: m.text(), NoLoop: m.Intn(2) == 0, Lock: m.Intn(2) == 0, When: m.conds(0, 3)}
	for range m.Intn(3) {
		r.Then = append(r.Then, m.action())
	}
	return r
}

func (m maker) base() api.Base {
	var b api.Base
	for range m.Intn(3) {
		b.Classes = append(b.Classes, m.class())
	}
	for range m.Intn(3) {
		b.Rules = append(b.Rules, m.rule())
	}
	for range m.Intn(3) {
		q := api.Query{Name: m.name(), When: m.conds(0, 3)}
		for range m.Intn(3) {
			q.Params = append(q.Params, m.word())
		}
		b.Queries = append(b.Queries, q)
	}
	return b
}

// holds asks P6.1 to P6.3 of a thing of whatever kind: if a loose text is read as it, its canonical text is, has nothing needless, and is its own canonical text; else there is none. It tells whether there is one.
func holds[T any](t *testing.T, x T, write func(T) (string, api.Errno), loose string, read func(string) (T, api.Errno)) bool {
	t.Helper()
	same := func(s string) bool {
		got, err := read(s)
		return err == api.OK && alike(got, x)
	}
	s, err := write(x)
	if !same(loose) {
		if s != "" || err != api.ErrArg {
			t.Fatalf("%.1000v\nis read of no text, and written as\n%s, %d", x, s, err)
		}
		return false
	}
	if err != api.OK || !same(s) {
		t.Fatalf("%.1000v\nis written as\n%s, %d", x, s, err)
	}
	laid(t, s)
	back, _ := read(s)
	if again, err := write(back); again != s || err != api.OK {
		t.Fatalf("%s\nis written again as\n%s, %d", s, again, err)
	}
	if len(s) < 200 {
		bare(t, s, same)
	}
	return true
}

func holdsBase(t *testing.T, b api.Base) bool {
	t.Helper()
	return holds(t, b, print.Print, looseBase(b), func(s string) (api.Base, api.Errno) {
		b, _, err := parse.Parse(s)
		return b, err
	})
}

func holdsExpr(t *testing.T, e api.Expr) bool {
	t.Helper()
	return holds(t, e, print.Expr, looseExpr(e), func(s string) (api.Expr, api.Errno) {
		e, _, err := parse.Expr(s)
		return e, err
	})
}

func holdsCond(t *testing.T, c api.Cond) bool {
	t.Helper()
	return holds(t, c, print.Cond, looseCond(c), func(s string) (api.Cond, api.Errno) {
		b, _, err := parse.Parse(when(s))
		if err != api.OK || len(b.Rules) != 1 || len(b.Rules[0].When) != 1 || !alike(b, baseOf(b.Rules[0].When...)) {
			return api.Cond{}, api.ErrSyntax
		}
		return b.Rules[0].When[0], api.OK
	})
}

// P6.3: what is made by chance is read back as the same.
func TestChance(t *testing.T) {
	m := maker{rand.New(rand.NewSource(1))}
	for range 1000 {
		if b := m.base(); !holdsBase(t, b) {
			t.Errorf("%.500v: may not be written", b)
		}
		if e := m.expr(1 + m.Intn(6)); !holdsExpr(t, e) {
			t.Errorf("%.500v: may not be written", e)
		}
		if c := m.cond(4); !holdsCond(t, c) {
			t.Errorf("%.500v: may not be written", c)
		}
	}
}

// leaves gathers all fields, lists and their items within v.
func leaves(v reflect.Value) []reflect.Value {
	l := []reflect.Value{v}
	switch v.Kind() {
	case reflect.Struct:
		l = nil
		for i := range v.NumField() {
			l = append(l, leaves(v.Field(i))...)
		}
	case reflect.Slice:
		for i := range v.Len() {
			l = append(l, leaves(v.Index(i))...)
		}
	}
	return l
}

// change makes something else of a leaf.
func (m maker) change(v reflect.Value) {
	switch v.Kind() {
	case reflect.Bool:
		v.SetBool(!v.Bool())
	case reflect.Int, reflect.Int64:
		v.SetInt([]int64{0, 1, -1, v.Int() + 1, v.Int() - 1, int64(m.Intn(25)), 1 << 31, -1 << 31, 1<<31 + 1, math.MaxInt64, math.MinInt64}[m.Intn(11)])
	case reflect.String:
		v.SetString(m.pick("", "a", "list", "rule", v.String()+" ", "a b", "1", "$a", "\x00", "\r", "\n", "a.b", "(a)", "//", strings.Repeat("a", 64), strings.Repeat("a", 65)))
	case reflect.Slice:
		l := reflect.MakeSlice(v.Type(), 0, 0)
		l = reflect.AppendSlice(l, v.Slice(m.Intn(v.Len()+1), v.Len()))
		if m.Intn(2) == 0 {
			l = reflect.Append(l, reflect.Zero(v.Type().Elem()))
		} else if v.Len() > 0 {
			l = reflect.Append(l, v.Index(m.Intn(v.Len())))
		}
		v.Set(l)
	}
}

// changed changes one leaf of what x points to, or some.
func (m maker) changed(x any) {
	for range 1 + m.Intn(3) {
		l := leaves(reflect.ValueOf(x).Elem())
		m.change(l[m.Intn(len(l))])
	}
}

// P6.1, P6.2: what is made by hand is told just if a text is read as it.
func TestChanged(t *testing.T) {
	m := maker{rand.New(rand.NewSource(2))}
	may := [3]int{}
	const rounds = 4000
	for range rounds {
		b, e, c := m.base(), m.expr(1+m.Intn(4)), m.cond(3)
		m.changed(&b)
		m.changed(&e)
		m.changed(&c)
		for i, is := range []bool{holdsBase(t, b), holdsExpr(t, e), holdsCond(t, c)} {
			if is {
				may[i]++
			}
		}
	}
	for i, n := range may {
		if n < rounds/50 || n > rounds*9/10 {
			t.Errorf("%d: %d of %d may be written", i, n, rounds)
		}
	}
}

// P6.3 (T5): of every text that is a base the canonical text is read as the same base, and is its own.
func TestTextsByChance(t *testing.T) {
	m := maker{rand.New(rand.NewSource(3))}
	words := strings.Fields(`class extends rule query when then end salience group not or from eval acc over insert update halt true null size has int list ( ) [ ] { } , . : ; ? = == < + - * / % ! && || $a $b a b 1 2 "t" ""`)
	bases, exprs := 0, 0
	for range 6000 {
		s, err := print.Print(m.base())
		if err != api.OK {
			t.Fatal(err)
		}
		l, _, _ := lex.Lex(s)
		text := ""
		for _, x := range l {
			switch m.Intn(4 * len(l)) {
			case 0:
			case 1:
				text += words[m.Intn(len(words))] + "\n"
			case 2:
				text += words[m.Intn(len(words))] + "\t" + s[x.At:x.End] + "\r"
			default:
				text += s[x.At:x.End] + " "
			}
		}
		b, _, err := parse.Parse(text)
		if err != api.OK {
			continue
		}
		if bases++; !holdsBase(t, b) {
			t.Errorf("%q: may not be written", text)
		}
		for _, c := range b.Rules {
			for _, c := range c.When {
				if !holdsCond(t, c) {
					t.Errorf("%q: a condition may not be written", text)
				}
			}
			for _, a := range c.Then {
				if a.E.Op == api.ENone {
					continue
				}
				if exprs++; !holdsExpr(t, a.E) {
					t.Errorf("%q: an expression may not be written", text)
				}
			}
		}
	}
	if bases < 2000 || exprs < 200 {
		t.Errorf("%d bases, %d expressions: too few", bases, exprs)
	}
}

// P6.3: all short expressions of a few lexemes: those that are one are read back as the same from their canonical text.
func TestAllShort(t *testing.T) {
	words := []string{"a", "1", "||", "&&", "==", "+", "*", "-", "!", ".", "(", ")", "[", "]", ","}
	many := 0
	var walk func(s string, left int)
	walk = func(s string, left int) {
		if e, _, err := parse.Expr(s); err == api.OK {
			if many++; !holdsExpr(t, e) {
				t.Errorf("%q: may not be written", s)
			}
		}
		if left > 0 {
			for _, x := range words {
				walk(s+" "+x, left-1)
			}
		}
	}
	walk("", 5)
	if many < 1000 {
		t.Errorf("%d expressions: too few", many)
	}
}
