package check

import "proctor/api"

// watched tells the fields of a pattern of l on which l hangs, and texts that may be no fields of it.
func watched(l []api.Cond, pattern api.Cond) set {
	fields := set{}
	for _, b := range pattern.Binds {
		fields.add(b.Field)
	}
	for _, test := range pattern.Tests {
		for e := range parts(test) {
			if e.Op == api.EField {
				fields.add(e.Text)
			}
		}
	}
	if pattern.Var == "" {
		return fields
	}
	for e := range exprs(l) {
		if isGetOf(e, pattern.Var) {
			fields.add(e.Text)
		}
	}
	return fields
}

func isGetOf(e api.Expr, v string) bool {
	return e.Op == api.EGet && len(e.Args) > 0 && e.Args[0].Op == api.EVar && e.Args[0].Text == v
}

// among tells the names of those fields that are in names.
func among(fields []api.Field, names set) []string {
	var out []string
	for _, f := range fields {
		if names.has(f.Name) {
			out = append(out, f.Name)
		}
	}
	return out
}
