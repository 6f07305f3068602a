package class

const longestName = 64

// isName asks for the length first, so that a long text is not gone through.
func isName(s string) bool {
	if s == "" || len(s) > longestName || !isLetter(s[0]) || isKeyword(s) {
		return false
	}
	for i := range len(s) {
		if !isLetter(s[i]) && !isDigit(s[i]) && s[i] != '_' {
			return false
		}
	}
	return true
}

func isLetter(c byte) bool { return 'a' <= c && c <= 'z' || 'A' <= c && c <= 'Z' }

func isDigit(c byte) bool { return '0' <= c && c <= '9' }

// isKeyword has lex's words once more, since lex stands above this layer.
func isKeyword(s string) bool {
	switch s {
	case "class", "extends", "rule", "query", "when", "then", "end",
		"salience", "group", "flow", "noloop", "lock",
		"not", "exists", "forall", "or", "from", "eval", "acc", "over",
		"insert", "logical", "update", "delete", "focus", "print", "halt",
		"true", "false", "null", "size", "has",
		"int", "bool", "text", "list", "any", "ref":
		return true
	}
	return false
}
