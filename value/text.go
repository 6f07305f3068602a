package value

import (
	"strconv"

	"proctor/api"
)

func Text(v api.Value) string {
	if !Check(v) {
		return ""
	}
	return string(write(nil, v))
}

func write(out []byte, v api.Value) []byte {
	switch v.Kind {
	case api.VNull:
		return append(out, "null"...)
	case api.VBool:
		return strconv.AppendBool(out, v.Bool)
	case api.VInt:
		return strconv.AppendInt(out, v.Int, 10)
	case api.VText:
		return quote(out, v.Text)
	case api.VFact:
		return strconv.AppendInt(append(out, '#'), v.Int, 10)
	}
	return writeList(out, v.List)
}

func writeList(out []byte, l []api.Value) []byte {
	out = append(out, '[')
	for i, v := range l {
		if i > 0 {
			out = append(out, ", "...)
		}
		out = write(out, v)
	}
	return append(out, ']')
}

// quote writes s as lex.Quote does, which stands above this layer and can't be called from here. It goes by bytes: those of no UTF-8 stay as they are.
func quote(out []byte, s string) []byte {
	out = append(out, '"')
	for i := range len(s) {
		switch c := s[i]; c {
		case '"', '\\':
			out = append(out, '\\', c)
		case '\n':
			out = append(out, '\\', 'n')
		case '\t':
			out = append(out, '\\', 't')
		default:
			out = append(out, c)
		}
	}
	return append(out, '"')
}
