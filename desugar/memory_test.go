package desugar_test

import (
	"reflect"
	"strconv"
	"sync"
	"testing"

	"proctor/api"
	"proctor/desugar"
)

// sample has all kinds of conditions, with choices at all levels.
const sample = `$p : P($a : x, $b : y, x + 1 == -$a, y != ["t", [$a, 2]]) not (Q() (exists (P($p.y)) or R())) forall ((P($b : x) or Q()) ; (Q(x == $b) or eval(true)))
(P($c : x) or Q($c : x) P()) $d from [1, $a.b] acc($s : sum($v * 2) over P($v : x) not ((R(p == $p) or Q()))) exists ((P() or ?two($e ?, [1, "t"])) P()) exists (P($f : x)) ?two($e ?, has([$d], 3))`

// samples are lists that have alternatives, and such as have none.
func samples(t *testing.T) [][]api.Cond {
	stray := list(api.Cond{Kind: api.CFact, Conds: list(fact("P")), Then: list(fact("P")), Alts: [][]api.Cond{list(fact("P"))}, Tests: []api.Expr{{V: api.Value{List: []api.Value{{List: []api.Value{{Text: "x"}}}}}}}}, or(list(fact("P")), list(within(api.CNot, fact("Q")))))
	l := [][]api.Cond{conds(t, sample), conds(t, sample+either(2)+either(9)), conds(t, sample+`acc($x : sum(1) over `+either(2)+`)`), stray}
	return append(l, conds(t, either(200)+either(3)), conds(t, `not (`+either(60)+`)`), nested(31, func(l []api.Cond) api.Cond { return or(l) }))
}

// copied tells a copy of v that shares no memory with it; each list has room behind its length.
func copied(v reflect.Value) reflect.Value {
	c := reflect.New(v.Type()).Elem()
	switch v.Kind() {
	case reflect.Struct:
		for i := range v.NumField() {
			c.Field(i).Set(copied(v.Field(i)))
		}
	case reflect.Slice:
		l := reflect.MakeSlice(v.Type(), 0, v.Len()+2)
		for i := range v.Len() {
			l = reflect.Append(l, copied(v.Index(i)))
		}
		c.Set(l)
	default:
		c.Set(v)
	}
	return c
}

func copyOf[T any](x T) T { return copied(reflect.ValueOf(x)).Interface().(T) }

// spoil sets all texts and numbers of v, and what lies behind the lists' lengths or, if all is asked for, the lists themselves.
func spoil(v reflect.Value, all bool) {
	switch v.Kind() {
	case reflect.Struct:
		for i := range v.NumField() {
			spoil(v.Field(i), all)
		}
	case reflect.Slice:
		for i := range v.Len() {
			spoil(v.Index(i), all)
		}
		whole := v.Slice3(0, v.Cap(), v.Cap())
		for i := v.Len(); i < v.Cap(); i++ {
			spoil(whole.Index(i), true)
		}
	case reflect.String:
		if all {
			v.SetString("#")
		}
	case reflect.Int, reflect.Int64:
		if all {
			v.SetInt(-7)
		}
	}
}

// behind gathers what lies behind the lists' lengths.
func behind(v reflect.Value) []any {
	var l []any
	switch v.Kind() {
	case reflect.Struct:
		for i := range v.NumField() {
			l = append(l, behind(v.Field(i))...)
		}
	case reflect.Slice:
		for i := range v.Len() {
			l = append(l, behind(v.Index(i))...)
		}
		whole := v.Slice3(0, v.Cap(), v.Cap())
		for i := v.Len(); i < v.Cap(); i++ {
			l = append(l, whole.Index(i).Interface())
		}
	}
	return l
}

// answer is what Conds tells.
type answer struct {
	alts [][]api.Cond
	err  api.Errno
	core bool
}

func said(l []api.Cond) answer {
	alts, err := desugar.Conds(l)
	return answer{alts, err, desugar.Core(l)}
}

func (a answer) is(b answer) bool { return a.err == b.err && a.core == b.core && same(a.alts, b.alts) }

// P9.5, R2: nothing that is handed in is changed, or read behind a list's length.
func TestMemoryKept(t *testing.T) {
	for i, l := range samples(t) {
		want := said(l)
		c := copyOf(l)
		spoil(reflect.ValueOf(c), false)
		hidden := behind(reflect.ValueOf(c))
		if got := said(c); !got.is(want) {
			t.Errorf("%d: %v instead of %v", i, got, want)
		}
		if !reflect.DeepEqual(hidden, behind(reflect.ValueOf(c))) || !same(c, l) {
			t.Errorf("%d has changed", i)
		}
		if n := []int{2, 36, 0, 2}[min(i, 3)]; i < 4 && len(want.alts) != n || (want.err == api.OK) != (len(want.alts) > 0) || i > 3 && want.err == api.OK {
			t.Errorf("%d: %d, %d", i, len(want.alts), want.err)
		}
	}
	b := read(t, rules(`P() (Q() or not ((P() or R())))`, `(P() or Q())`)+`query q() (P() or Q()) end`)
	c := copyOf(b)
	spoil(reflect.ValueOf(c), false)
	hidden := behind(reflect.ValueOf(c))
	l, err := desugar.Cores(c)
	if err != api.OK || cores(l) != "0/0 P Q, 0/1 P !(P) !(R), 1/0 P, 1/1 Q" || !reflect.DeepEqual(hidden, behind(reflect.ValueOf(c))) || !same(b, c) {
		t.Errorf("%s, %d", cores(l), err)
	}
}

// lists gathers the places of all lists in v that have room, in whatever depth.
func lists(v reflect.Value, found map[uintptr]int) {
	switch v.Kind() {
	case reflect.Struct:
		for i := range v.NumField() {
			lists(v.Field(i), found)
		}
	case reflect.Slice:
		for i := range v.Cap() {
			found[v.Slice3(0, v.Cap(), v.Cap()).Index(i).Addr().Pointer()]++
		}
		for i := range v.Len() {
			if v.Index(i).Kind() == reflect.Slice || v.Index(i).Kind() == reflect.Struct {
				lists(v.Index(i), found)
			}
		}
	}
}

// P9.5, R2: what is told shares nothing with what is handed in, and no two of its lists share memory.
func TestMemoryTold(t *testing.T) {
	for i, l := range samples(t) {
		kept, want := copyOf(l), said(l)
		first, second := said(l), said(l)
		spoil(reflect.ValueOf(first.alts), true)
		if !same(l, kept) || !second.is(want) || !said(l).is(want) {
			t.Errorf("%d: memory is shared", i)
		}
		for j := range second.alts {
			spoil(reflect.ValueOf(second.alts[j]), true)
			if j+1 < len(second.alts) && !same(second.alts[j+1:], want.alts[j+1:]) {
				t.Errorf("%d: alternatives share memory", i)
			}
		}
		handed := copyOf(l)
		told := said(handed)
		spoil(reflect.ValueOf(handed), true)
		if !told.is(want) {
			t.Errorf("%d: what is handed in is kept", i)
		}
	}
}

// P9.5, R2: no element of a list has another's place, in one answer, and in it and what was handed in.
func TestPlaces(t *testing.T) {
	b := read(t, rules(`$p : P($a : x, y == [$a, [1, "t"]]) not ((Q(x == $a) or R()) P()) (P(x == 1) or Q($b : x) or exists ((P() or R(p == $p)))) forall ((P() or Q()) ; (R() or P(x == 2)))`))
	l, err := desugar.Cores(b)
	if err != api.OK || len(l) != 3 {
		t.Fatalf("%s, %d", cores(l), err)
	}
	found := map[uintptr]int{}
	lists(reflect.ValueOf(l), found)
	lists(reflect.ValueOf(b), found)
	many := 0
	for _, n := range found {
		if n > 1 {
			many++
		}
	}
	if many > 0 || len(found) < 50 {
		t.Errorf("%d of %d places are shared", many, len(found))
	}
}

// P9.5, R4, R6: calls hang on no others, and calls at once tell what they tell alone.
func TestTogether(t *testing.T) {
	l := samples(t)
	var wants []answer
	for _, x := range l {
		wants = append(wants, said(x))
	}
	b := read(t, rules(`P() (Q() or not ((P() or R())))`, `(P() or Q())`))
	var all sync.WaitGroup
	for range 8 {
		all.Go(func() {
			for i := range 40 {
				if !said(l[i%len(l)]).is(wants[i%len(l)]) {
					t.Error(strconv.Itoa(i) + " told otherwise")
				}
				if l, err := desugar.Cores(b); err != api.OK || cores(l) != "0/0 P Q, 0/1 P !(P) !(R), 1/0 P, 1/1 Q" {
					t.Errorf("%s, %d", cores(l), err)
				}
			}
		})
	}
	all.Wait()
}
