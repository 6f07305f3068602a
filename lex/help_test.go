package lex_test

import (
	"fmt"
	"regexp"
	"strings"
	"testing"

	"proctor/api"
	"proctor/lex"
)

// shown tells lexemes so that no two lists look alike: kind, place, end, text in Go's quotes.
func shown(all []lex.Lexeme) string {
	var out []string
	for _, l := range all {
		out = append(out, fmt.Sprintf("%d@%d-%d:%q", l.Kind, l.At, l.End, l.Text))
	}
	return strings.Join(out, " ")
}

func answer(all []lex.Lexeme, at int, err api.Errno) string {
	return fmt.Sprintf("%s / %d / %d", shown(all), at, err)
}

func told(s string) string { return answer(lex.Lex(s)) }

// same holds what Lex tells of s against the lexemes that it must have.
func same(t *testing.T, s string, want ...lex.Lexeme) {
	t.Helper()
	if got := told(s); got != answer(want, 0, api.OK) {
		t.Errorf("Lex(%.60q): %.200s", s, got)
	}
}

func barredAt(t *testing.T, s string, at int) {
	t.Helper()
	if got := told(s); got != answer(nil, at, api.ErrSyntax) {
		t.Errorf("Lex(%.60q): %.200s instead of a fault at %d", s, got, at)
	}
}

func word(s string, at int) lex.Lexeme {
	return lex.Lexeme{Kind: lex.Word, Text: s, At: at, End: at + len(s)}
}

func mark(s string, at int) lex.Lexeme {
	return lex.Lexeme{Kind: lex.Mark, Text: s, At: at, End: at + len(s)}
}

func number(s string, at int) lex.Lexeme {
	return lex.Lexeme{Kind: lex.Int, Text: s, At: at, End: at + len(s)}
}

func variable(s string, at int) lex.Lexeme {
	return lex.Lexeme{Kind: lex.Var, Text: s, At: at, End: at + 1 + len(s)}
}

func quoted(s string, at, end int) lex.Lexeme {
	return lex.Lexeme{Kind: lex.Text, Text: s, At: at, End: end}
}

// meaning is the chapter's table as expressions, one a kind; of what matches at a place the longest is taken.
type meaning struct {
	gap   *regexp.Regexp
	kinds []*regexp.Regexp
}

func newMeaning() meaning {
	m := meaning{gap: regexp.MustCompile(`^(?:[ \t\r\n]|//[^\n]*(?:\n|$))*`)}
	for _, s := range []string{
		`^[a-zA-Z][a-zA-Z0-9_]*`,
		`^\$[a-zA-Z][a-zA-Z0-9_]*`,
		`^[0-9]+`,
		`^"(?:[^\x00-\x1f"\\]|\\["\\nt])*"`,
		`^(?:==|!=|<=|>=|&&|\|\||[()\[\]{},.:;?<>=+\-*/%!])`,
	} {
		e := regexp.MustCompile(s)
		e.Longest()
		m.kinds = append(m.kinds, e)
	}
	return m
}

func (m meaning) lex(s string) ([]lex.Lexeme, int, api.Errno) {
	if len(s) > api.MaxText {
		return nil, 0, api.ErrLong
	}
	var all []lex.Lexeme
	at := 0
	for {
		at += len(m.gap.FindString(s[at:]))
		if at == len(s) {
			return all, 0, api.OK
		}
		l := lex.Lexeme{End: at}
		for kind, e := range m.kinds {
			if n := len(e.FindString(s[at:])); at+n > l.End {
				l = lex.Lexeme{Kind: kind, Text: says(kind, s[at:at+n]), At: at, End: at + n}
			}
		}
		if l.End == at || len(all) == api.MaxLex {
			return nil, at, api.ErrSyntax
		}
		all = append(all, l)
		at = l.End
	}
}

func says(kind int, s string) string {
	switch kind {
	case lex.Var:
		return s[1:]
	case lex.Text:
		return strings.NewReplacer(`\"`, `"`, `\\`, `\`, `\n`, "\n", `\t`, "\t").Replace(s[1 : len(s)-1])
	}
	return s
}

// walk hands on every text of at most most of the pieces, one behind the other.
func walk(pieces []string, most int, visit func(string)) {
	var from func(s string, left int)
	from = func(s string, left int) {
		visit(s)
		if left == 0 {
			return
		}
		for _, p := range pieces {
			from(s+p, left-1)
		}
	}
	from("", most)
}
