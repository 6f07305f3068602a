package desugar_test

import (
	"fmt"
	"maps"
	"slices"
	"testing"

	"proctor/api"
	"proctor/desugar"
)

// thing is a fact of one field.
type thing struct{ class, value string }

// world is facts.
type world []thing

// solutions tells the variables of all solutions of a list, as it is written, with what is there.
func (w world) solutions(l []api.Cond, there map[string]string) []map[string]string {
	all := []map[string]string{there}
	for _, c := range l {
		var next []map[string]string
		for _, ahead := range all {
			next = append(next, w.step(c, ahead)...)
		}
		all = next
	}
	return all
}

func (w world) holds(l []api.Cond, there map[string]string) bool {
	return len(w.solutions(l, there)) > 0
}

func (w world) step(c api.Cond, there map[string]string) []map[string]string {
	is := false
	switch c.Kind {
	case api.CFact:
		return w.pattern(c, there)
	case api.COr:
		var all []map[string]string
		for _, alt := range c.Alts {
			all = append(all, w.solutions(alt, there)...)
		}
		return all
	case api.CAcc:
		with := maps.Clone(there)
		with[c.Var] = fmt.Sprint(len(w.solutions(c.Conds, there)))
		return []map[string]string{with}
	case api.CNot:
		is = !w.holds(c.Conds, there)
	case api.CExists:
		is = w.holds(c.Conds, there)
	case api.CForall:
		is = !slices.ContainsFunc(w.solutions(c.Conds, there), func(s map[string]string) bool { return !w.holds(c.Then, s) })
	}
	if is {
		return []map[string]string{there}
	}
	return nil
}

// pattern asks for facts of the class, with the variable for the field's value.
func (w world) pattern(c api.Cond, there map[string]string) []map[string]string {
	var all []map[string]string
	for _, f := range w {
		v := c.Binds[0].Var
		if value, ok := there[v]; f.class == c.Class && (!ok || value == f.value) {
			with := maps.Clone(there)
			with[v] = f.value
			all = append(all, with)
		}
	}
	return all
}

// told writes solutions, each once, in order.
func told(l []map[string]string) string {
	var out []string
	for _, s := range l {
		out = append(out, fmt.Sprint(s))
	}
	slices.Sort(out)
	return fmt.Sprint(slices.Compact(out))
}

// bound gives patterns one of few classes and one of few variables, and accs one of their own.
func bound(m *maker, l []api.Cond) {
	for i := range l {
		switch c := &l[i]; c.Kind {
		case api.CFact:
			c.Class, c.Binds = string(rune('P'+m.Intn(3))), []api.Bind{{Var: string(rune('a' + m.Intn(3))), Field: "x"}}
		case api.CAcc:
			c.Var = "n"
		}
		bound(m, l[i].Conds)
		bound(m, l[i].Then)
		for _, alt := range l[i].Alts {
			bound(m, alt)
		}
	}
}

// P9.4: what matches conditions as they are written is what matches one of their alternatives, by a small meaning, over facts made by chance.
func TestMeaning(t *testing.T) {
	m := newMaker(11)
	seen := map[string]int{}
	for i := range 6000 {
		m.next().hand = i%2 == 0
		l := m.list(1 + m.Intn(3))
		bound(m, l)
		alts, err := desugar.Conds(l)
		if count(l) > 20 || err != api.OK {
			seen["left out"]++
			continue
		}
		for range 3 {
			var w world
			for range m.Intn(5) {
				w = append(w, thing{string(rune('P' + m.Intn(3))), fmt.Sprint(m.Intn(2))})
			}
			var together []map[string]string
			for _, alt := range alts {
				together = append(together, w.solutions(alt, map[string]string{})...)
			}
			written := w.solutions(l, map[string]string{})
			if told(written) != told(together) {
				t.Fatalf("%s: %v: %s as it is written, %s by %s", short(l), w, told(written), told(together), shorts(alts))
			}
			switch {
			case len(written) == 0:
				seen["none"]++
			case desugar.Core(l):
				seen["some of a core"]++
			default:
				seen["some"]++
			}
		}
	}
	enough(t, seen, 1000, "none", "some of a core", "some")
}
