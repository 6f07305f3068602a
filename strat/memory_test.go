package strat_test

import (
	"reflect"
	"strconv"
	"strings"
	"sync"
	"testing"

	"proctor/api"
	"proctor/strat"
)

// sample has all kinds of conditions and actions.
const sample = classes + asked + `rule "r" salience -1 group "g" when $p : A(x == 2, $a : x) not (B() exists (A($p.x == x))) forall (A($b : x) ; C()) (A($c : x) or ?given($c ?) B()) $d from [1, $a]
eval(true) acc($s : sum($v * 2) over A($v : x) not (C())) ?one() then insert A { x = 1 }; logical D {}; logical E {}; update $p { x = 3 }; delete $p; focus "g"; print $s; halt; end rule "s" when E() not (D()) then logical E {}; end `

// copied tells a copy of v that shares no memory with it; each list has room behind its length.
func copied(v reflect.Value) reflect.Value {
	c := reflect.New(v.Type()).Elem()
	switch v.Kind() {
	case reflect.Struct:
		for i := range v.NumField() {
			c.Field(i).Set(copied(v.Field(i)))
		}
	case reflect.Slice:
		l := reflect.MakeSlice(v.Type(), 0, v.Len()+2)
		for i := range v.Len() {
			l = reflect.Append(l, copied(v.Index(i)))
		}
		c.Set(l)
	default:
		c.Set(v)
	}
	return c
}

func copyOf(b api.Base) api.Base { return copied(reflect.ValueOf(b)).Interface().(api.Base) }

// spoil sets all texts and numbers of v, and what lies behind the lists' lengths or, if all is asked for, the lists themselves.
func spoil(v reflect.Value, all bool) {
	switch v.Kind() {
	case reflect.Struct:
		for i := range v.NumField() {
			spoil(v.Field(i), all)
		}
	case reflect.Slice:
		for i := range v.Len() {
			spoil(v.Index(i), all)
		}
		whole := v.Slice3(0, v.Cap(), v.Cap())
		for i := v.Len(); i < v.Cap(); i++ {
			spoil(whole.Index(i), true)
		}
	case reflect.String:
		if all {
			v.SetString("#")
		}
	case reflect.Int, reflect.Int64:
		if all {
			v.SetInt(-7)
		}
	}
}

// behind gathers what lies behind the lists' lengths.
func behind(v reflect.Value) []any {
	var l []any
	switch v.Kind() {
	case reflect.Struct:
		for i := range v.NumField() {
			l = append(l, behind(v.Field(i))...)
		}
	case reflect.Slice:
		for i := range v.Len() {
			l = append(l, behind(v.Index(i))...)
		}
		whole := v.Slice3(0, v.Cap(), v.Cap())
		for i := v.Len(); i < v.Cap(); i++ {
			l = append(l, whole.Index(i).Interface())
		}
	}
	return l
}

// said is all that the calls tell of a base.
func said(b api.Base) string {
	edges, edgesErr := strat.Edges(b)
	strata, strataErr := strat.Strata(b)
	return strings.Join([]string{arrows(edges), number(edgesErr), number(strat.Check(b)), lists(strata), number(strataErr)}, ", ")
}

func number(err api.Errno) string { return strconv.Itoa(int(err)) }

// samples are a file that has strata, one that has a ring, and files that are barred.
func samples(t *testing.T) []api.Base {
	var l []api.Base
	for _, s := range []string{"", ring, `class A {}`, `query one() end`, `rule "r" when then end`} {
		l = append(l, read(t, sample+s))
	}
	return append(l, api.Base{Rules: make([]api.Rule, 1, 4), Queries: make([]api.Query, 1, 4)})
}

// wants is what is told of the samples.
func wants() []string {
	const edges = "A>D A!D A>E A!E B>D B!D B>E B!E C!D C!E D!E E>E"
	return []string{edges + ", 0, 0, A B C | D | E, 0", "A!A " + edges + ", 0, 23, , 23", ", 10, 10, , 10", ", 22, 22, , 22", ", 22, 22, , 22", ", 1, 1, , 1"}
}

// P8.4, R2, R4, R6: nothing that is handed in is changed, or read behind a list's length; calls hang on no others.
func TestMemoryKept(t *testing.T) {
	for range 3 {
		for i, b := range samples(t) {
			if got := said(b); got != wants()[i] {
				t.Errorf("%d: %s instead of %s", i, got, wants()[i])
			}
			c := copyOf(b)
			spoil(reflect.ValueOf(c), false)
			hidden := behind(reflect.ValueOf(c))
			if got := said(c); got != wants()[i] {
				t.Errorf("%d: %s of a copy instead of %s", i, got, wants()[i])
			}
			if !reflect.DeepEqual(hidden, behind(reflect.ValueOf(c))) || !reflect.DeepEqual(copyOf(c), copyOf(b)) {
				t.Errorf("%d has changed", i)
			}
		}
	}
}

// P8.4, R2: what is told is the caller's own, list by list, and nothing that was handed in is kept.
func TestMemoryTold(t *testing.T) {
	b := samples(t)[0]
	for range 3 {
		edges, _ := strat.Edges(b)
		again, _ := strat.Edges(b)
		for i := range edges[:cap(edges)] {
			edges[:cap(edges)][i] = strat.Edge{From: "#"}
		}
		strata, _ := strat.Strata(b)
		other, _ := strat.Strata(b)
		for i, names := range strata {
			kept := lists(strata[i+1:])
			for j := range names[:cap(names)] {
				names[:cap(names)][j] = "#"
			}
			if lists(strata[i+1:]) != kept {
				t.Errorf("%v: lists share memory", strata)
			}
		}
		strata = strata[:cap(strata)]
		clear(strata)
		if got := strings.Join([]string{arrows(again), "0, 0", lists(other), "0"}, ", "); got != wants()[0] || said(b) != wants()[0] {
			t.Errorf("%s; %s", got, said(b))
		}
	}
	c := copyOf(b)
	edges, _ := strat.Edges(c)
	strata, _ := strat.Strata(c)
	spoil(reflect.ValueOf(c), true)
	if got := strings.Join([]string{arrows(edges), "0, 0", lists(strata), "0"}, ", "); got != wants()[0] {
		t.Errorf("%s", got)
	}
}

// P8.4, R6: calls at once tell what they tell alone.
func TestTogether(t *testing.T) {
	l := samples(t)
	var all sync.WaitGroup
	for range 8 {
		all.Go(func() {
			for i := range 60 {
				if got := said(l[i%len(l)]); got != wants()[i%len(l)] {
					t.Errorf("%d: %s", i%len(l), got)
				}
			}
		})
	}
	all.Wait()
}
