package class_test

import (
	"strconv"
	"strings"
	"testing"

	"proctor/api"
	"proctor/class"
)

var none api.Value

func num(n int64) api.Value         { return api.Value{Kind: api.VInt, Int: n} }
func text(s string) api.Value       { return api.Value{Kind: api.VText, Text: s} }
func truth(b bool) api.Value        { return api.Value{Kind: api.VBool, Bool: b} }
func handle(n int64) api.Value      { return api.Value{Kind: api.VFact, Int: n} }
func list(l ...api.Value) api.Value { return api.Value{Kind: api.VList, List: l} }

// fields reads fields: `x` is any, `x:int` a type's, `x:A` a ref to A.
func fields(s string) []api.Field {
	types := map[string]int{"any": api.TAny, "bool": api.TBool, "int": api.TInt, "text": api.TText, "list": api.TList}
	var l []api.Field
	for _, w := range strings.Fields(s) {
		name, of, _ := strings.Cut(w, ":")
		f := api.Field{Name: name}
		if n, ok := types[of]; ok {
			f.Type = n
		} else if of != "" {
			f.Type, f.Class = api.TRef, of
		}
		l = append(l, f)
	}
	return l
}

// classes reads lines like `B A y:text`: a name, its super or `-`, fields.
func classes(lines ...string) []api.Class {
	var l []api.Class
	for _, line := range lines {
		words := strings.SplitN(line, " ", 3)
		c := api.Class{Name: words[0]}
		if len(words) > 1 && words[1] != "-" {
			c.Super = words[1]
		}
		if len(words) > 2 {
			c.Fields = fields(words[2])
		}
		l = append(l, c)
	}
	return l
}

func table(t *testing.T, l []api.Class) *class.Table {
	t.Helper()
	a, err := class.New(l)
	if err != api.OK || a == nil {
		t.Fatalf("New(%v): %d", l, err)
	}
	return a
}

// many has n fields: p0, p1, ..
func many(p string, n int) string {
	var s strings.Builder
	for i := range n {
		s.WriteString(" " + p + strconv.Itoa(i))
	}
	return s.String()
}

func names(l []api.Field) string {
	var s []string
	for _, f := range l {
		s = append(s, f.Name)
	}
	return strings.Join(s, " ")
}

// family has classes of three ways up, one of them with a gap in the table's order.
func family() []api.Class {
	return classes("A - x:int y:D", "B A z:bool", "C", "D B w:A v:list", "E C x:text", "F A z:int", "G D u:G")
}
