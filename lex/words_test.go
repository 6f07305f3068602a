package lex_test

import (
	"slices"
	"strings"
	"testing"

	"proctor/api"
	"proctor/lex"
)

const keywords = "class extends rule query when then end salience group flow noloop lock not exists forall or from eval acc over insert logical update delete focus print halt true false null size has int bool text list any ref"

// P4.3: each keyword is one; nothing near it is, nor anything that other chapters name.
func TestKey(t *testing.T) {
	all := strings.Fields(keywords)
	near := strings.Fields("count sum min max gather collect main and if in fact var class2 classs on off float ref_ _ref")
	for _, s := range all {
		if !lex.Key(s) {
			t.Errorf("%s is no keyword", s)
		}
		near = append(near, strings.ToUpper(s), strings.ToUpper(s[:1])+s[1:], s[1:], s[:len(s)-1], s+"s", s+" ", " "+s, s+"\x00", s+s, "$"+s)
	}
	near = append(near, "", " ", "class extends", keywords, strings.Repeat("class", 1000), "\xff")
	for _, s := range near {
		if lex.Key(s) && !slices.Contains(all, s) {
			t.Errorf("%.40q is a keyword", s)
		}
	}
}

// P4.3: a keyword is a word as any other.
func TestKeyIsWord(t *testing.T) {
	for _, s := range strings.Fields(keywords) {
		same(t, s, word(s, 0))
		same(t, "$"+s, variable(s, 0))
	}
}

// P4.3: four bytes have a way of their own to be written, all else is as it is.
func TestQuote(t *testing.T) {
	for c := range 256 {
		s := string([]byte{byte(c)})
		want := s
		switch s {
		case "\"":
			want = `\"`
		case "\\":
			want = `\\`
		case "\n":
			want = `\n`
		case "\t":
			want = `\t`
		}
		if got := lex.Quote(s); got != `"`+want+`"` {
			t.Errorf("Quote(%q): %q", s, got)
		}
		if got := lex.Quote("a" + s + s + "z"); got != `"a`+want+want+`z"` {
			t.Errorf("%q twice: %q", s, got)
		}
	}
	for s, want := range map[string]string{"": `""`, "é\xc3": "\"é\xc3\"", `\n`: `"\\n"`, `"\`: `"\"\\"`, "\r\x00\x7f": "\"\r\x00\x7f\""} {
		if got := lex.Quote(s); got != want {
			t.Errorf("Quote(%q): %q", s, got)
		}
	}
	long := strings.Repeat("\t", 1<<20)
	if got := lex.Quote(long); got != `"`+strings.Repeat(`\t`, 1<<20)+`"` {
		t.Errorf("a long text: %d bytes", len(got))
	}
}

// P4.4: Lex of Quote of a text without other bytes below 32 is that text; of one with such a byte it is barred.
func TestQuoteRead(t *testing.T) {
	back := func(s string) {
		q := lex.Quote(s)
		same(t, q, quoted(s, 0, len(q)))
		same(t, "a"+q+"//", word("a", 0), quoted(s, 1, len(q)+1))
	}
	walk([]string{`"`, `\`, "\n", "\t", "n", "t", " ", "/", "\x7f", "\xff", "é"}, 4, back)
	for c := range 256 {
		s := "x" + string([]byte{byte(c)}) + "n"
		if c >= 32 || c == '\n' || c == '\t' {
			back(s)
		} else {
			barredAt(t, lex.Quote(s), 0)
		}
	}
	longest := strings.Repeat("\n", api.MaxText/2-1)
	same(t, lex.Quote(longest), quoted(longest, 0, api.MaxText))
	if got := told(lex.Quote(strings.Repeat("\n", api.MaxText/2))); got != answer(nil, 0, api.ErrLong) {
		t.Errorf("a text that is too long when it is quoted: %.200s", got)
	}
}
