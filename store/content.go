package store

import (
	"proctor/api"
	"proctor/value"
)

// content is by what facts are equal: the class, and the values, encoded, since values are no keys. Encodings need no mark between them: none is the beginning of another.
type content struct {
	class string
	vals  string
}

// contentOf tells false of values that may not be: no fact has them.
func contentOf(name string, vals []api.Value) (content, bool) {
	var all []byte
	for _, v := range vals {
		b, err := value.Encode(v)
		if err != api.OK {
			return content{}, false
		}
		all = append(all, b...)
	}
	return content{class: name, vals: string(all)}, true
}

// changes tells the mask of the fields whose values are not the same as those of set.
func changes(vals []api.Value, places []int, set []api.Given) uint64 {
	var mask uint64
	for n, i := range places {
		if !value.Same(vals[i], set[n].V) {
			mask |= 1 << i
		}
	}
	return mask
}

func copiedFact(f api.Fact) api.Fact {
	f.Vals = copiedList(f.Vals)
	f.Stamps = append([]int(nil), f.Stamps...)
	return f
}

func copied(v api.Value) api.Value {
	v.List = copiedList(v.List)
	return v
}

// copiedList tells nil of an empty list, for even that could lead to the memory behind it.
func copiedList(l []api.Value) []api.Value {
	if len(l) == 0 {
		return nil
	}
	out := make([]api.Value, len(l))
	for i, v := range l {
		out[i] = copied(v)
	}
	return out
}
