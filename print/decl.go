package print

import "proctor/api"

// mostSalience bounds a salience both ways.
const mostSalience = 1 << 31

func (w *writer) base(b api.Base) {
	for _, c := range b.Classes {
		w.class(c)
	}
	for _, r := range b.Rules {
		w.rule(r)
	}
	for _, q := range b.Queries {
		w.query(q)
	}
}

func (w *writer) class(c api.Class) {
	w.put("class")
	w.name(c.Name)
	if c.Super != "" {
		w.put("extends")
		w.name(c.Super)
	}
	w.within("{", "}", func() {
		for _, f := range c.Fields {
			w.field(f)
		}
	})
}

func (w *writer) field(f api.Field) {
	w.name(f.Name)
	w.put(":")
	if f.Type == api.TRef {
		w.put("ref")
		w.name(f.Class)
		return
	}
	barUnless(f.Class == "")
	w.put(typeWord(f.Type))
}

// typeWord tells the keyword of a type that needs no class.
func typeWord(kind int) string {
	switch kind {
	case api.TAny:
		return "any"
	case api.TBool:
		return "bool"
	case api.TInt:
		return "int"
	case api.TText:
		return "text"
	case api.TList:
		return "list"
	}
	bar()
	return ""
}

func (w *writer) rule(r api.Rule) {
	w.put("rule")
	w.text(r.Name)
	w.attrs(r)
	w.put("when")
	w.anyConds(r.When)
	w.put("then")
	for _, a := range r.Then {
		w.action(a)
	}
	w.put("end")
}

// attrs writes none that says what is zero without it.
func (w *writer) attrs(r api.Rule) {
	w.salience(r.Salience)
	if r.Group != "" {
		w.put("group")
		w.text(r.Group)
	}
	if r.Flow != "" {
		w.put("flow")
		w.text(r.Flow)
	}
	if r.NoLoop {
		w.put("noloop")
	}
	if r.Lock {
		w.put("lock")
	}
}

func (w *writer) salience(n int) {
	barUnless(-mostSalience <= n && n <= mostSalience)
	switch {
	case n < 0:
		w.put("salience", "-")
		w.number(int64(-n))
	case n > 0:
		w.put("salience")
		w.number(int64(n))
	}
}

func (w *writer) query(q api.Query) {
	w.put("query")
	w.name(q.Name)
	w.within("(", ")", func() { commas(w, q.Params, w.variable) })
	w.anyConds(q.When)
	w.put("end")
}
