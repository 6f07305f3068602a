package print_test

import (
	"math/rand"
	"reflect"
	"strings"
	"sync"
	"testing"
	"unsafe"

	"proctor/api"
	"proctor/lex"
	"proctor/parse"
	"proctor/print"
)

// copied tells a copy of v that shares no memory with it, nor the bytes of its texts; each list has room behind its length.
func copied(v reflect.Value) reflect.Value {
	c := reflect.New(v.Type()).Elem()
	switch v.Kind() {
	case reflect.Struct:
		for i := range v.NumField() {
			c.Field(i).Set(copied(v.Field(i)))
		}
	case reflect.Slice:
		if v.IsNil() {
			return c
		}
		l := reflect.MakeSlice(v.Type(), 0, v.Len()+2)
		for i := range v.Len() {
			l = reflect.Append(l, copied(v.Index(i)))
		}
		c.Set(l)
	case reflect.String:
		c.SetString(strings.Clone(v.String()))
	default:
		c.Set(v)
	}
	return c
}

func copyOf[T any](x T) T { return copied(reflect.ValueOf(x)).Interface().(T) }

// fill sets what lies behind the lists' lengths to what may not be written: its texts to s.
func fill(v reflect.Value, s string) {
	switch v.Kind() {
	case reflect.Struct:
		for i := range v.NumField() {
			fill(v.Field(i), s)
		}
	case reflect.Slice:
		for i := range v.Len() {
			fill(v.Index(i), s)
		}
		whole := v.Slice3(0, v.Cap(), v.Cap())
		for i := v.Len(); i < v.Cap(); i++ {
			spoil(whole.Index(i), s)
		}
	}
}

// spoil sets all texts of v to s, and all its numbers.
func spoil(v reflect.Value, s string) {
	switch v.Kind() {
	case reflect.Struct:
		for i := range v.NumField() {
			spoil(v.Field(i), s)
		}
	case reflect.String:
		v.SetString(s)
	case reflect.Int, reflect.Int64:
		v.SetInt(-7)
	}
}

// behind gathers what lies behind the lists' lengths.
func behind(v reflect.Value) []any {
	var l []any
	switch v.Kind() {
	case reflect.Struct:
		for i := range v.NumField() {
			l = append(l, behind(v.Field(i))...)
		}
	case reflect.Slice:
		for i := range v.Len() {
			l = append(l, behind(v.Index(i))...)
		}
		whole := v.Slice3(0, v.Cap(), v.Cap())
		for i := v.Len(); i < v.Cap(); i++ {
			l = append(l, whole.Index(i).Interface())
		}
	}
	return l
}

// keeps asks R2 of a call: x is as it was, and what lies behind its lists' lengths is neither read nor written.
func keeps[T any](t *testing.T, x T, write func(T) (string, api.Errno)) {
	t.Helper()
	want, wantErr := write(x)
	c := copyOf(x)
	fill(reflect.ValueOf(c), "#")
	hidden := behind(reflect.ValueOf(c))
	got, err := write(c)
	if got != want || err != wantErr {
		t.Errorf("%.200v is written otherwise with something behind its lists: %d", x, err)
	}
	if !reflect.DeepEqual(hidden, behind(reflect.ValueOf(c))) || !alike(c, x) {
		t.Errorf("%.200v has changed", x)
	}
}

const sample = `class P { x : int, y : ref P } class Q extends P { z : list }
rule "r" salience -1 group "g" flow "f" noloop lock when $p : P(x + 1 == 2, $a : x) not (Q() exists (P())) forall (P(); Q(x)) (P() or Q() P()) $x from [1, $a.b]
eval(!has([1], -2)) acc($s : sum($a * 2) over P($a : x)) ? q($a, $b ?, "t") then insert P { x = 1, y = null }; logical Q {}; update $p { x = (1 + 2) * 3 }; delete $p; focus "g"; print size("a"); halt; end
query q($a, $b) P($a : x, $b : y) end`

// P6.4, R2: nothing that is handed in is changed, or read behind a list's length.
func TestMemoryKept(t *testing.T) {
	b, _, err := parse.Parse(sample)
	if err != api.OK {
		t.Fatal(err)
	}
	keeps(t, b, print.Print)
	m := maker{rand.New(rand.NewSource(4))}
	for range 300 {
		b, e, c := m.base(), m.expr(4), m.cond(3)
		keeps(t, b, print.Print)
		keeps(t, e, print.Expr)
		keeps(t, c, print.Cond)
		m.changed(&b)
		m.changed(&e)
		m.changed(&c)
		keeps(t, b, print.Print)
		keeps(t, e, print.Expr)
		keeps(t, c, print.Cond)
	}
}

// P6.4, R2: what is told is new memory: it shares none with the texts that are handed in.
func TestMemoryTold(t *testing.T) {
	for _, s := range []string{"a", "abc", strings.Repeat("x", 64)} {
		bytes := []byte(s)
		mine := unsafe.String(&bytes[0], len(bytes))
		got, err := print.Expr(field(mine))
		quoted, _ := print.Expr(str(mine))
		cond, _ := print.Cond(pattern(mine))
		base, _ := print.Print(api.Base{Rules: []api.Rule{{Name: mine}}})
		for i := range bytes {
			bytes[i] = '#'
		}
		if got != s || err != api.OK || quoted != lex.Quote(s) || cond != s+" ( )" || base != "rule "+lex.Quote(s)+" when then end" {
			t.Errorf("%q, %q, %q, %q: not the caller's own", got, quoted, cond, base)
		}
	}
}

// P6.4, R4, R6: a call hangs on no other one: what was barred, or too long, leaves nothing behind.
func TestMemoryNone(t *testing.T) {
	b, _, _ := parse.Parse(sample)
	want, _ := print.Print(b)
	for range 3 {
		bars(t, "a barred one", api.Base{Rules: []api.Rule{b.Rules[0], {Salience: 1 << 40}}})
		answers(t, "a long one", api.Base{Rules: []api.Rule{b.Rules[0], {Name: strings.Repeat("a", 1<<16)}}}, api.ErrLong)
		barsExpr(t, "a deep one", lists(31))
		barsCond(t, "a barred one", not(api.Cond{}))
		if got, err := print.Print(b); got != want || err != api.OK {
			t.Errorf("%s, %d instead of %s", got, err, want)
		}
	}
}

// P6.4, R6: calls at once tell what they tell alone.
func TestTogether(t *testing.T) {
	b, _, _ := parse.Parse(sample)
	want, _ := print.Print(b)
	bad := api.Base{Rules: []api.Rule{b.Rules[0], {Salience: 1 << 40}}}
	var all sync.WaitGroup
	for range 8 {
		all.Go(func() {
			for range 20 {
				if got, err := print.Print(b); got != want || err != api.OK {
					t.Errorf("%s, %d", got, err)
				}
				if got, err := print.Print(bad); got != "" || err != api.ErrArg {
					t.Errorf("%s, %d", got, err)
				}
				if got, err := print.Cond(b.Rules[0].When[0]); got != "$p : P ( $a : x , x + 1 == 2 )" || err != api.OK {
					t.Errorf("%s, %d", got, err)
				}
			}
		})
	}
	all.Wait()
}

// P6.4, R3: what holds itself ends.
func TestEndsInItself(t *testing.T) {
	for kind := api.ENone; kind <= api.EHas; kind++ {
		for n := 1; n <= 3; n++ {
			e := api.Expr{Op: kind, Text: "a", Args: make([]api.Expr, n)}
			for i := range e.Args {
				e.Args[i] = e
			}
			barsExpr(t, kind, e)
			e.Text = ""
			for i := range e.Args {
				e.Args[i] = e
			}
			barsExpr(t, kind, e)
			bars(t, kind, baseThen(show(e)))
		}
	}
	l := []api.Value{{Kind: api.VList}}
	l[0].List = l
	barsExpr(t, "a value", lit(l[0]))
	own := make([]api.Cond, 2)
	for kind := api.CNone; kind <= api.CQuery; kind++ {
		own[0] = api.Cond{Kind: kind, Conds: own}
		own[1] = own[0]
		barsCond(t, kind, own[0])
		own[0] = api.Cond{Kind: kind, Conds: own, Then: own}
		own[1] = own[0]
		barsCond(t, kind, own[0])
		own[0] = api.Cond{Kind: kind, Alts: [][]api.Cond{own, own}}
		own[1] = own[0]
		barsCond(t, kind, own[0])
		own[0] = api.Cond{Kind: kind, Var: "s", Fn: "sum", E: num(1), Conds: own}
		own[1] = own[0]
		barsCond(t, kind, own[0])
	}
}

// P6.4, R3: what stands in many places ends at a cap, not behind all of them.
func TestEndsShared(t *testing.T) {
	e := field("a")
	for range 29 {
		e = op(api.EAdd, e, e)
	}
	barsExpr(t, "2^29 fields", e)
	c := p()
	for range 29 {
		c = not(c, c, c)
	}
	barsCond(t, "3^29 patterns", c)
	barsExpr(t, "many operands", list(make([]api.Expr, 1<<20)...))
	barsExpr(t, "many numbers", items(1<<20))
	bars(t, "many rules", api.Base{Rules: make([]api.Rule, 1<<20)})
	bars(t, "many classes", api.Base{Classes: make([]api.Class, 1<<20)})
	bars(t, "many queries", api.Base{Queries: make([]api.Query, 1<<20)})
	bars(t, "many conditions", baseOf(make([]api.Cond, 1<<18)...))
	bars(t, "many actions", baseThen(make([]api.Action, 1<<18)...))
	b := api.Base{Rules: make([]api.Rule, 800)}
	long := strings.Repeat("\n", 1<<18)
	for i := range b.Rules {
		b.Rules[i].Name = long
	}
	answers(t, "many long texts", b, api.ErrLong)
	deep := lists(1 << 15)
	barsExpr(t, "a deep one", deep)
	bars(t, "a deep one", baseOf(from(deep)))
}
