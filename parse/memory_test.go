package parse_test

import (
	"cmp"
	"math/rand"
	"reflect"
	"slices"
	"strings"
	"sync"
	"testing"
	"unsafe"

	"proctor/api"
	"proctor/parse"
)

// part is a piece of memory.
type part struct{ from, to uintptr }

// lists gathers the memory of all lists within v, behind their lengths, too.
func lists(v reflect.Value) []part {
	var l []part
	switch v.Kind() {
	case reflect.Struct:
		for i := range v.NumField() {
			l = append(l, lists(v.Field(i))...)
		}
	case reflect.Slice:
		if v.Cap() > 0 {
			l = append(l, part{v.Pointer(), v.Pointer() + uintptr(v.Cap())*v.Type().Elem().Size()})
		}
		for i := range v.Len() {
			l = append(l, lists(v.Index(i))...)
		}
	}
	return l
}

// spoil writes zeros all over the lists within v, as far as their memory goes.
func spoil(v reflect.Value) {
	switch v.Kind() {
	case reflect.Struct:
		for i := range v.NumField() {
			spoil(v.Field(i))
		}
	case reflect.Slice:
		for i := range v.Len() {
			spoil(v.Index(i))
		}
		v.Slice3(0, v.Cap(), v.Cap()).Clear()
	}
}

// apart asks that no two lists of one answer share memory.
func apart(t *testing.T, what string, answer any) {
	t.Helper()
	l := lists(reflect.ValueOf(answer))
	slices.SortFunc(l, func(a, b part) int { return cmp.Compare(a.from, b.from) })
	for i := 1; i < len(l); i++ {
		if l[i].from < l[i-1].to {
			t.Errorf("%.80q: two lists share memory", what)
		}
	}
	if len(l) < 3 {
		t.Errorf("%.80q: %d lists", what, len(l))
	}
}

const many = "[a + b - c, -[d.e.f, []], size([1, 2]) + has([\"t\"], x), (a), ((b || c) || d), [[[]]]]"

// P5.4, R2: no two lists of one answer share memory.
func TestMemoryApart(t *testing.T) {
	e, _, _ := parse.Expr(many)
	apart(t, many, e)
	b, _, _ := parse.Parse(sample + "\n" + sample)
	apart(t, sample, b)
	m := maker{rand.New(rand.NewSource(3))}
	for range 100 {
		w := &writer{maker: m, fault: -1}
		w.base(api.Base{Rules: []api.Rule{{When: m.conds(2, 3), Then: []api.Action{m.action()}}, {When: m.conds(1, 3)}}, Queries: []api.Query{{Name: "q", When: m.conds(2, 3)}}})
		s, at := w.whole()
		if b, _, _ := parse.Parse(s); at < 0 {
			apart(t, s, b)
		}
	}
}

// P5.4, R2: an answer is the caller's own: to write all over it changes no later one.
func TestMemoryTold(t *testing.T) {
	wantFile, wantExpr := file(sample), expr(many)
	b, _, _ := parse.Parse(sample)
	e, _, _ := parse.Expr(many)
	other, _, _ := parse.Expr(many)
	spoil(reflect.ValueOf(b))
	spoil(reflect.ValueOf(e))
	if file(sample) != wantFile || expr(many) != wantExpr || answer(other, 0, api.OK) != wantExpr {
		t.Error("another answer has changed")
	}
	if answer(b, 0, api.OK) == wantFile || answer(e, 0, api.OK) == wantExpr {
		t.Error("nothing was written over")
	}
}

// P5.4, R2: nothing keeps the text that was handed in: what its bytes become doesn't change an answer.
func TestMemoryKept(t *testing.T) {
	wantFile, wantExpr := file(sample), expr(many)
	fileBytes, exprBytes := []byte(sample), []byte(many)
	b, at, err := parse.Parse(unsafe.String(&fileBytes[0], len(fileBytes)))
	e, _, _ := parse.Expr(unsafe.String(&exprBytes[0], len(exprBytes)))
	for i := range fileBytes {
		fileBytes[i] = '#'
	}
	for i := range exprBytes {
		exprBytes[i] = '#'
	}
	if answer(b, at, err) != wantFile || answer(e, 0, api.OK) != wantExpr {
		t.Error("an answer shares the text's memory")
	}
}

// P5.4, R4: beside an error all else is zero, however much was read ahead of the fault.
func TestMemoryNone(t *testing.T) {
	for _, s := range []string{sample + " ;", sample + "\n" + sample + " class", sample + " #", sample[:len(sample)-3]} {
		if b, at, err := parse.Parse(s); err != api.ErrSyntax || at == 0 || !reflect.DeepEqual(b, api.Base{}) {
			t.Errorf("%.80q: %d at %d, %v", s, err, at, b)
		}
	}
	for _, s := range []string{many + " ;", many + " #", many + "."} {
		if e, at, err := parse.Expr(s); err != api.ErrSyntax || at == 0 || !reflect.DeepEqual(e, api.Expr{}) {
			t.Errorf("%.80q: %d at %d, %v", s, err, at, e)
		}
	}
}

// P5.4, R6: calls at once tell what they tell alone.
func TestTogether(t *testing.T) {
	texts := []string{sample, many, "", "class A {", strings.Repeat("(", 31), sample + "x", strings.Repeat("[1,", 1000)}
	var files, exprs []string
	for _, s := range texts {
		files, exprs = append(files, file(s)), append(exprs, expr(s))
	}
	var all sync.WaitGroup
	for range 4 {
		for i, s := range texts {
			all.Go(func() {
				if file(s) != files[i] || expr(s) != exprs[i] {
					t.Errorf("%.40q is told otherwise", s)
				}
			})
		}
	}
	all.Wait()
}

// ends asks P5.3 of a text: a base, or an error with a place that is none beyond the text.
func ends(t *testing.T, s string) {
	t.Helper()
	b, at, err := parse.Parse(s)
	e, exprAt, exprErr := parse.Expr(s)
	if at < 0 || at > len(s) || exprAt < 0 || exprAt > len(s) {
		t.Fatalf("%.200q: faults at %d, at %d", s, at, exprAt)
	}
	for _, told := range []struct {
		none bool
		at   int
		err  api.Errno
	}{{reflect.DeepEqual(b, api.Base{}), at, err}, {reflect.DeepEqual(e, api.Expr{}), exprAt, exprErr}} {
		switch {
		case told.err == api.OK && told.at == 0:
		case told.err == api.ErrSyntax && told.none:
		case told.err == api.ErrLong && told.none && told.at == 0 && len(s) > api.MaxText:
		default:
			t.Fatalf("%.200q: %d at %d", s, told.err, told.at)
		}
	}
}

// P5.3, P5.4, R3: of every text there is an answer; bytes and lexemes by chance, much of one thing, texts far beyond what may be.
func TestEnds(t *testing.T) {
	r := rand.New(rand.NewSource(4))
	const signs = " \n\"ax1$(){}[],.:;?<>=+-*/%!|&"
	for range 3000 {
		l := make([]byte, r.Intn(60))
		r.Read(l)
		ends(t, string(l))
		for i := range l {
			l[i] = signs[int(l[i])%len(signs)]
		}
		ends(t, string(l))
	}
	words := append(strings.Fields(sample), "$v", "1", "[", "]", "%", "size", "true")
	for range 3000 {
		var l []string
		for range r.Intn(40) {
			l = append(l, words[r.Intn(len(words))])
		}
		ends(t, strings.Join(l, " "))
		ends(t, when(strings.Join(l, " ")))
	}
	for _, s := range append(words, "\x00", "\"", "#", "not (", "(P() or ", "P(", "$x : ", "a.", "a||", "class A {", "halt;", "size(", "insert A { x = ") {
		for _, n := range []int{1, 2, 29, 30, 31, 32, 1000, 4096, 70000} {
			ends(t, strings.Repeat(s+" ", n))
			ends(t, `rule "r" when `+strings.Repeat(s+" ", n))
			ends(t, `rule "r" when then `+strings.Repeat(s+" ", n))
		}
	}
	ends(t, strings.Repeat("[", 1<<26))
}
