package strat

import (
	"proctor/api"
	"proctor/class"
)

// holding tells the edges as they hold: a pattern has facts of the classes below its own, too.
func holding(classes *class.Table, l []Edge) []Edge {
	all := edges{}
	for _, e := range l {
		subs, _ := classes.Subs(e.From)
		for _, from := range subs {
			all.add(Edge{From: from, To: e.To, Not: e.Not})
		}
	}
	return all.sorted()
}

// numbersOf tells for each class the greatest number of Not edges on a way that ends at it; false, if one has no greatest. A way with as many Not edges as there are classes comes twice to one of their ends: it goes round, and each round has more of them.
func numbersOf(classes []api.Class, l []Edge) (map[string]int, bool) {
	numbers := make(map[string]int, len(classes))
grow:
	for {
		grown := false
		for _, e := range l {
			n := numbers[e.From] + bit(e.Not)
			if n >= len(classes) {
				break grow
			}
			if n > numbers[e.To] {
				numbers[e.To], grown = n, true
			}
		}
		if !grown {
			return numbers, true
		}
	}
	return nil, false
}

// strata lists the classes by their numbers. No list stays empty: a way to a class of a number has on it one of each number below.
func strata(classes []api.Class, numbers map[string]int) [][]string {
	var out [][]string
	for _, c := range classes {
		n := numbers[c.Name]
		for len(out) <= n {
			out = append(out, nil)
		}
		out[n] = append(out[n], c.Name)
	}
	return out
}
