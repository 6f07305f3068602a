package lex

// firstPlain is the first byte that may stand in a text as it is.
const firstPlain = ' '

// Quote goes by bytes: those of no UTF-8 stay as they are.
func Quote(s string) string {
	out := make([]byte, 0, len(s)+2)
	out = append(out, '"')
	for i := range len(s) {
		switch c := s[i]; c {
		case '"', '\\':
			out = append(out, '\\', c)
		case '\n':
			out = append(out, '\\', 'n')
		case '\t':
			out = append(out, '\\', 't')
		default:
			out = append(out, c)
		}
	}
	return string(append(out, '"'))
}

// quoted reads the text that begins at at; whatever bars it, wherever that stands, is told at the text's first byte.
func quoted(text string, at int) (Lexeme, bool) {
	var said []byte
	i := at + 1
char:
	if i == len(text) || text[i] < firstPlain {
		return barred(at)
	}
	switch c := text[i]; c {
	case '"':
		return Lexeme{Kind: Text, Text: string(said), At: at, End: i + 1}, true
	case '\\':
		goto escape
	default:
		said = append(said, c)
		i++
		goto char
	}
escape:
	if i+1 == len(text) {
		return barred(at)
	}
	c, may := escaped(text[i+1])
	if !may {
		return barred(at)
	}
	said = append(said, c)
	i += 2
	goto char
}

// escaped tells the byte for which c stands behind a backslash.
func escaped(c byte) (byte, bool) {
	switch c {
	case '"', '\\':
		return c, true
	case 'n':
		return '\n', true
	case 't':
		return '\t', true
	}
	return 0, false
}
