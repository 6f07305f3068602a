package print

import "proctor/api"

// action takes what it writes out of rest: what is left there would be lost, so it must be none.
func (w *writer) action(a api.Action) {
	rest := a
	rest.Kind = api.ANone
	switch a.Kind {
	case api.AInsert:
		rest.Class, rest.Set = "", nil
		w.insertion("insert", a)
	case api.ALogical:
		rest.Class, rest.Set = "", nil
		w.insertion("logical", a)
	case api.AUpdate:
		rest.E, rest.Set = api.Expr{}, nil
		w.update(a)
	case api.ADelete:
		rest.E = api.Expr{}
		w.put("delete")
		w.expr(a.E)
	case api.AFocus:
		rest.Text = ""
		w.put("focus")
		w.text(a.Text)
	case api.APrint:
		rest.E = api.Expr{}
		w.put("print")
		w.expr(a.E)
	case api.AHalt:
		w.put("halt")
	default:
		bar()
	}
	barUnless(isNoAction(rest))
	w.put(";")
}

func isNoAction(a api.Action) bool {
	return a.Kind == api.ANone && a.Class == "" && len(a.Set) == 0 && isNoExpr(a.E) && a.Text == ""
}

func (w *writer) insertion(word string, a api.Action) {
	w.put(word)
	w.name(a.Class)
	w.assigns(a.Set)
}

func (w *writer) update(a api.Action) {
	barUnless(len(a.Set) > 0)
	w.put("update")
	w.expr(a.E)
	w.assigns(a.Set)
}

func (w *writer) assigns(l []api.Assign) {
	w.within("{", "}", func() { commas(w, l, w.assign) })
}

func (w *writer) assign(a api.Assign) {
	w.name(a.Field)
	w.put("=")
	w.expr(a.E)
}
