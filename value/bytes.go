package value

import "proctor/api"

const (
	numberBytes = 8
	lengthBytes = 4
)

func Encode(v api.Value) ([]byte, api.Errno) {
	if !Check(v) {
		return nil, api.ErrArg
	}
	return encode(nil, v), api.OK
}

func encode(out []byte, v api.Value) []byte {
	out = append(out, byte(v.Kind))
	switch v.Kind {
	case api.VBool:
		out = append(out, bit(v.Bool))
	case api.VInt, api.VFact:
		out = encodeWord(out, uint64(v.Int), numberBytes)
	case api.VText:
		out = encodeWord(out, uint64(len(v.Text)), lengthBytes)
		out = append(out, v.Text...)
	case api.VList:
		out = encodeWord(out, uint64(len(v.List)), lengthBytes)
		for _, w := range v.List {
			out = encode(out, w)
		}
	}
	return out
}

// encodeWord puts the n lowest bytes of w behind out, the highest first.
func encodeWord(out []byte, w uint64, n int) []byte {
	for i := range n {
		out = append(out, byte(w>>(8*(n-1-i))))
	}
	return out
}

func Decode(b []byte) (api.Value, api.Errno) {
	r := reader{rest: b}
	v := r.value(api.MaxDeep)
	if r.bad || len(r.rest) != 0 {
		return api.Value{}, api.ErrForm
	}
	return v, api.OK
}

// reader goes through bytes; once bad, it stays so and reads noughts, so that only loops need to ask.
type reader struct {
	rest []byte
	bad  bool
}

func (r *reader) take(n int) []byte {
	if r.bad || n > len(r.rest) {
		r.bad = true
		return nil
	}
	out := r.rest[:n]
	r.rest = r.rest[n:]
	return out
}

func (r *reader) word(n int) uint64 {
	var w uint64
	for _, c := range r.take(n) {
		w = w<<8 | uint64(c)
	}
	return w
}

// value reads a value whose lists are at most room deep.
func (r *reader) value(room int) api.Value {
	v := api.Value{Kind: int(r.word(1))}
	switch v.Kind {
	case api.VNull:
	case api.VBool:
		w := r.word(1)
		r.require(w <= 1)
		v.Bool = w == 1
	case api.VInt:
		v.Int = int64(r.word(numberBytes))
	case api.VFact:
		v.Int = int64(r.word(numberBytes))
		r.require(v.Int >= 1)
	case api.VText:
		v.Text = string(r.take(r.length(api.MaxString)))
	case api.VList:
		r.require(room > 0)
		v.List = r.list(r.length(api.MaxList), room-1)
	default:
		r.bad = true
	}
	return v
}

func (r *reader) require(fine bool) {
	if !fine {
		r.bad = true
	}
}

// length reads how many there are: what it tells is never more than the bytes that are left could hold, so nothing is made room for on the mere word of a number.
func (r *reader) length(most int) int {
	n := r.word(lengthBytes)
	r.require(n <= uint64(most) && n <= uint64(len(r.rest)))
	if r.bad {
		return 0
	}
	return int(n)
}

func (r *reader) list(n, room int) []api.Value {
	if n == 0 {
		return nil
	}
	out := make([]api.Value, 0, n)
	for range n {
		if r.bad {
			return nil
		}
		out = append(out, r.value(room))
	}
	return out
}
