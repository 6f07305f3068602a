package check_test

import (
	"reflect"
	"slices"
	"strings"
	"sync"
	"testing"

	"proctor/api"
	"proctor/check"
)

// copied tells a copy of v that shares no memory with it; each list has room behind its length.
func copied(v reflect.Value) reflect.Value {
	c := reflect.New(v.Type()).Elem()
	switch v.Kind() {
	case reflect.Struct:
		for i := range v.NumField() {
			c.Field(i).Set(copied(v.Field(i)))
		}
	case reflect.Slice:
		l := reflect.MakeSlice(v.Type(), 0, v.Len()+2)
		for i := range v.Len() {
			l = reflect.Append(l, copied(v.Index(i)))
		}
		c.Set(l)
	default:
		c.Set(v)
	}
	return c
}

func copyOf[T any](x T) T { return copied(reflect.ValueOf(x)).Interface().(T) }

// spoil sets all texts and numbers of v, and what lies behind the lists' lengths or, if all is asked for, the lists themselves.
func spoil(v reflect.Value, all bool) {
	switch v.Kind() {
	case reflect.Struct:
		for i := range v.NumField() {
			spoil(v.Field(i), all)
		}
	case reflect.Slice:
		for i := range v.Len() {
			spoil(v.Index(i), all)
		}
		whole := v.Slice3(0, v.Cap(), v.Cap())
		for i := v.Len(); i < v.Cap(); i++ {
			spoil(whole.Index(i), true)
		}
	case reflect.String:
		if all {
			v.SetString("#")
		}
	case reflect.Int, reflect.Int64:
		if all {
			v.SetInt(-7)
		}
	}
}

// behind gathers what lies behind the lists' lengths.
func behind(v reflect.Value) []any {
	var l []any
	switch v.Kind() {
	case reflect.Struct:
		for i := range v.NumField() {
			l = append(l, behind(v.Field(i))...)
		}
	case reflect.Slice:
		for i := range v.Len() {
			l = append(l, behind(v.Index(i))...)
		}
		whole := v.Slice3(0, v.Cap(), v.Cap())
		for i := v.Len(); i < v.Cap(); i++ {
			l = append(l, whole.Index(i).Interface())
		}
	}
	return l
}

// said is all that the calls of check tell of a base.
func said(b api.Base) []string {
	where, err := check.Check(b)
	l := []string{where, string(rune('0' + err))}
	for _, r := range b.Rules {
		l = append(l, words(check.Binds(b, r.When)))
		for i := -1; i <= len(r.When); i++ {
			fields, err := check.Watched(b, r.When, i)
			l = append(l, words(fields), string(rune('0'+err)))
		}
	}
	return l
}

// sample has all kinds of conditions and actions.
const sample = classes + `rule "r" salience -1 group "g" when $p : P(x + 1 == 2, $a : x) not (Q() exists (P($p.y))) forall (P($b : x) ; Q(x == $b)) (P($c : x) or Q($c : x) P()) $d from [1, $a.b]
eval(!has([$d], -$c)) acc($s : sum($v * 2) over P($v : x) not (R($p.x))) ? two($e ?, "t") then insert P { x = 1, y = null }; logical Q { z = $s }; update $p { x = (1 + 2) * 3 }; delete $p; focus "g"; print size("a"); halt; end
query two($a, $b) P($b : x) not (P($c : y)) (P($a : x) not (?way(1)) or $a from [1] $c from [$b]) end query way($a) (P($a : x) or ?way($a ?)) end `

// P7.4, R2: nothing that is handed in is changed, or read behind a list's length.
func TestMemoryKept(t *testing.T) {
	for _, s := range []string{sample, sample + `rule "r" when then end`, sample + `rule "s" when then print $x; end`, sample + `query q($a) end`, sample + `rule "s" when ` + strings.Repeat(either(2), 10) + ` then end`, sample + `class P {}`} {
		b := read(t, s)
		want := said(b)
		c := copyOf(b)
		spoil(reflect.ValueOf(c), false)
		hidden := behind(reflect.ValueOf(c))
		if got := said(c); !slices.Equal(got, want) {
			t.Errorf("%s: %q instead of %q", s, got, want)
		}
		if !reflect.DeepEqual(hidden, behind(reflect.ValueOf(c))) || !reflect.DeepEqual(copyOf(c), copyOf(b)) {
			t.Errorf("%s has changed", s)
		}
	}
	keeps(t, strings.TrimPrefix(sample, classes))
}

// P7.4, R2: what is told is the caller's own, as far as its memory goes, and nothing that was handed in is kept.
func TestMemoryTold(t *testing.T) {
	b := read(t, sample)
	want := said(b)
	l := b.Rules[0].When
	for range 3 {
		first, second := check.Binds(b, l), check.Binds(b, l)
		fields, _ := check.Watched(b, l, 0)
		again, _ := check.Watched(b, l, 0)
		keptBinds, keptFields := words(second), words(again)
		for _, l := range [][]string{first[:cap(first)], fields[:cap(fields)]} {
			for i := range l {
				l[i] = "#"
			}
		}
		if words(second) != keptBinds || words(again) != keptFields || !slices.Equal(said(b), want) || keptBinds == "" || keptFields == "" {
			t.Errorf("%v, %v", second, again)
		}
	}
	c := copyOf(b)
	binds := check.Binds(c, c.Rules[0].When)
	fields, _ := check.Watched(c, c.Rules[0].When, 0)
	spoil(reflect.ValueOf(c), true)
	if words(binds) != words(check.Binds(b, l)) || words(fields) != "x y" {
		t.Errorf("%v, %v", binds, fields)
	}
}

// P7.4, R4, R6: a call hangs on no other one: what was barred leaves nothing behind.
func TestMemoryNone(t *testing.T) {
	b := read(t, sample)
	want := said(b)
	for range 3 {
		for _, s := range []string{`rule "r" when then end`, `query a() not (?a()) end`, `rule "s" when P($a : z) then end`} {
			if _, err := check.Check(read(t, sample+s)); err != api.ErrScope {
				t.Errorf("%s: %d", s, err)
			}
		}
		if got := said(b); !slices.Equal(got, want) {
			t.Errorf("%q instead of %q", got, want)
		}
	}
}

// P7.4, R6: calls at once tell what they tell alone.
func TestTogether(t *testing.T) {
	good, bad := read(t, sample), read(t, sample+`query q($a) end`)
	wantGood, wantBad := said(good), said(bad)
	var all sync.WaitGroup
	for range 8 {
		all.Go(func() {
			for range 20 {
				if !slices.Equal(said(good), wantGood) || !slices.Equal(said(bad), wantBad) {
					t.Error("told otherwise")
				}
			}
		})
	}
	all.Wait()
}
