package class

import (
	"proctor/api"
	"proctor/value"
)

func (t *Table) Fits(f api.Field, v api.Value, of func(handle int) (string, bool)) bool {
	if !value.Check(v) {
		return false
	}
	if v.Kind == api.VNull {
		return true
	}
	switch f.Type {
	case api.TAny:
		return true
	case api.TBool:
		return v.Kind == api.VBool
	case api.TInt:
		return v.Kind == api.VInt
	case api.TText:
		return v.Kind == api.VText
	case api.TList:
		return v.Kind == api.VList
	case api.TRef:
		return v.Kind == api.VFact && t.Is(told(of, int(v.Int)), f.Class)
	}
	return false
}

// told asks of for a fact's class: the empty text, which is no class, if of tells none. A panic of the caller's function tells none, too: no call here may panic, whatever is handed in (R3).
func told(of func(handle int) (string, bool), handle int) (name string) {
	if of == nil {
		return ""
	}
	defer func() { recover() }()
	name, ok := of(handle)
	if !ok {
		return ""
	}
	return name
}
