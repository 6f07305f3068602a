package lex_test

import (
	"math/rand"
	"slices"
	"strings"
	"testing"

	"proctor/api"
	"proctor/lex"
)

// P4.1: a word is a letter and letters, digits, _.
func TestWord(t *testing.T) {
	same(t, "a", word("a", 0))
	same(t, "aZ_09_z", word("aZ_09_z", 0))
	same(t, "Az rule", word("Az", 0), word("rule", 3))
	same(t, "a.b", word("a", 0), mark(".", 1), word("b", 2))
	barredAt(t, "_a", 0)
	barredAt(t, "aé", 1)
	long := strings.Repeat("w", api.MaxText)
	same(t, long, word(long, 0))
}

// P4.1: a $ has its word right behind it; without one it begins no lexeme.
func TestVar(t *testing.T) {
	same(t, "$x", variable("x", 0))
	same(t, " $rule_1,$Z", variable("rule_1", 1), mark(",", 8), variable("Z", 9))
	same(t, "$a$b", variable("a", 0), variable("b", 2))
	for _, s := range []string{"$", "$ x", "$1", "$_", "$$x", "$\"x\"", "$//\nx", "$\nx", "${x}"} {
		barredAt(t, s, 0)
	}
	barredAt(t, "$a$", 2)
}

// P4.1: digits stay as they are written, whatever their number is; a letter behind them begins a word.
func TestInt(t *testing.T) {
	same(t, "0", number("0", 0))
	same(t, "007", number("007", 0))
	same(t, "9223372036854775808", number("9223372036854775808", 0))
	same(t, "1a_2", number("1", 0), word("a_2", 1))
	same(t, "-1", mark("-", 0), number("1", 1))
	same(t, "1.50", number("1", 0), mark(".", 1), number("50", 2))
	barredAt(t, "1_0", 1)
	long := strings.Repeat("9", api.MaxText)
	same(t, long, number(long, 0))
}

// P4.1: a text says its bytes from 32 on, and what stands behind a backslash.
func TestText(t *testing.T) {
	same(t, `""`, quoted("", 0, 2))
	same(t, `"a b"`, quoted("a b", 0, 5))
	same(t, `x"\"\\\n\t"y`, word("x", 0), quoted("\"\\\n\t", 1, 11), word("y", 11))
	same(t, `"\\n"`, quoted(`\n`, 0, 5))
	same(t, `"a""b"`, quoted("a", 0, 3), quoted("b", 3, 6))
	same(t, `"//" 1`, quoted("//", 0, 4), number("1", 5))
	same(t, `"$x == 'y'"`, quoted("$x == 'y'", 0, 11))
	same(t, "\"\x7f\x80\xffé\"", quoted("\x7f\x80\xffé", 0, 7))
	inside := strings.Repeat("t", api.MaxText-2)
	same(t, `"`+inside+`"`, quoted(inside, 0, api.MaxText))
}

// P4.1: a mark of two bytes goes ahead of one of one byte.
func TestMark(t *testing.T) {
	for _, s := range strings.Fields("== != <= >= && ||") {
		same(t, s, mark(s, 0))
		same(t, "a"+s+"1", word("a", 0), mark(s, 1), number("1", 3))
	}
	for _, s := range strings.Split("()[]{},.:;?<>=+-*/%!", "") {
		same(t, s, mark(s, 0))
		same(t, s+" "+s, mark(s, 0), mark(s, 2))
	}
	same(t, "===", mark("==", 0), mark("=", 2))
	same(t, "= =", mark("=", 0), mark("=", 2))
	same(t, "<==>", mark("<=", 0), mark("=", 2), mark(">", 3))
	same(t, "!!=", mark("!", 0), mark("!=", 1))
	same(t, "=>=<", mark("=", 0), mark(">=", 1), mark("<", 3))
	same(t, "&&||", mark("&&", 0), mark("||", 2))
	for _, s := range []string{"|", "| |", "|a", "&", "& &", "&|", "|&&", "~", "^", "@", "#", "'", "`", "\\", "\x00", "\x0b", "\x0c", "\x7f", "\xa0", "é"} {
		barredAt(t, s, 0)
		barredAt(t, "a "+s, 2)
	}
	barredAt(t, "|||", 2)
	barredAt(t, "&&&", 2)
}

// P4.1: blanks and remarks part lexemes and are none; a remark goes up to LF, not to CR.
func TestGaps(t *testing.T) {
	for _, s := range []string{"", " ", "\t", "\r", "\n", " \t\r\n ", "//", "// a", "//\n", "///", "// \"", "//\n//", "//a\r b", "// #\x00\xff|\n\t// $"} {
		same(t, s)
		same(t, s+"\na", word("a", len(s)+1))
		same(t, "a"+s, word("a", 0))
	}
	same(t, "a b\tc\rd\ne", word("a", 0), word("b", 2), word("c", 4), word("d", 6), word("e", 8))
	same(t, "a//b\nc", word("a", 0), word("c", 5))
	same(t, "=//\n=", mark("=", 0), mark("=", 4))
	same(t, "a/ /b", word("a", 0), mark("/", 1), mark("/", 3), word("b", 4))
	same(t, "a/", word("a", 0), mark("/", 1))
	same(t, "a ///b\n/c", word("a", 0), mark("/", 7), word("c", 8))
	same(t, "1//2", number("1", 0))
	barredAt(t, "//a\n#", 4)
	barredAt(t, "//a\n\\//b", 4)
}

// P4.2: a text that no " ends, or in which a byte below 32 or another \ stands, is told by its first byte.
func TestBarredText(t *testing.T) {
	for _, s := range []string{`"`, `"a`, `"a\"`, `"\`, `"\n`, `"a\\\"`, `"\x"`, `"\N"`, `"\ "`, `"\'"`, `"\r"`, `"\0"`, "\"\\\n\"", "\"\\\x00\"", "\"//", "\"a\nb\"", "\"\\\xff\""} {
		barredAt(t, s, 0)
		barredAt(t, "ab "+s+" # |", 3)
		barredAt(t, `"" `+s, 3)
	}
	for c := range 32 {
		barredAt(t, "1 \"a"+string(rune(c))+"\"", 2)
	}
	same(t, `"ab" "`+"\x20\"", quoted("ab", 0, 4), quoted(" ", 5, 8))
}

// P4.2: as many bytes as may be, and one more, which is told ahead of all else.
func TestLong(t *testing.T) {
	same(t, strings.Repeat(" ", api.MaxText))
	same(t, "//"+strings.Repeat("x", api.MaxText-2))
	for _, c := range []string{" ", "#", "a ", "(", `"`, "/", "\x00"} {
		s := strings.Repeat(c, 2*api.MaxText)
		for _, n := range []int{api.MaxText + 1, api.MaxText + 2, 2 * api.MaxText} {
			if got := told(s[:n]); got != answer(nil, 0, api.ErrLong) {
				t.Errorf("%d bytes of %q: %.200s", n, c, got)
			}
		}
	}
	barredAt(t, strings.Repeat(" ", api.MaxText-1)+"#", api.MaxText-1)
	same(t, strings.Repeat(" ", api.MaxText-1)+"x", word("x", api.MaxText-1))
}

// P4.2: as many lexemes as may be, and one more, of each kind; of several faults the first is told.
func TestMany(t *testing.T) {
	for kind, s := range []string{"w ", "$v ", "1 ", `"" `, "( "} {
		all, at, err := lex.Lex(strings.Repeat(s, api.MaxLex))
		if len(all) != api.MaxLex || at != 0 || err != api.OK || slices.ContainsFunc(all, func(l lex.Lexeme) bool { return l.Kind != kind }) {
			t.Errorf("%q, as many as may be: %d at %d, %d", s, len(all), at, err)
		}
		barredAt(t, strings.Repeat(s, api.MaxLex+1), api.MaxLex*len(s))
	}
	full := strings.Repeat("(", api.MaxLex)
	same(t, full+" // and a remark", marks(api.MaxLex)...)
	barredAt(t, full+" // and one more\n )", api.MaxLex+18)
	barredAt(t, full+" x #", api.MaxLex+1)
	barredAt(t, full+`  "x`, api.MaxLex+2)
	barredAt(t, full+" #", api.MaxLex+1)
	barredAt(t, full[1:]+"#((", api.MaxLex-1)
	barredAt(t, full[1:]+"\"(\n(", api.MaxLex-1)
	barredAt(t, full[1:]+"(\"\"", api.MaxLex)
}

func marks(n int) []lex.Lexeme {
	var out []lex.Lexeme
	for i := range n {
		out = append(out, mark("(", i))
	}
	return out
}

// P4.1, P4.2: every text of few pieces has the lexemes, or the fault, that the chapter's table gives it.
func TestMeaningOfAll(t *testing.T) {
	m := newMeaning()
	check := func(s string) {
		if got, want := told(s), answer(m.lex(s)); got != want {
			t.Fatalf("%q: %s instead of %s", s, got, want)
		}
	}
	walk([]string{"a", "$", "0", "_", `"`, `\`, "/", "\n", "=", "|", "&", "<", "!", " "}, 4, check)
	walk([]string{`"`, `\`, "n", "t", "\n", "\xff", "//"}, 5, check)
	var bytes []string
	for c := range 256 {
		bytes = append(bytes, string([]byte{byte(c)}))
	}
	walk(bytes, 2, check)
}

// P4.1, P4.2, P4.4: so has a long text, which has many lexemes and, at times, too many.
func TestMeaningOfLong(t *testing.T) {
	m := newMeaning()
	r := rand.New(rand.NewSource(4))
	pieces := []string{"a", "Z", "rule ", "$x", "12", "0", "_", `"q"`, `"\n\\"`, "==", "=", "!", "<", "&&", "||", " ", "\t", "\r\n", "// r \" #\n", "/", "(", "}"}
	rare := []string{"#", "$", `"`, "\x00", "|", "\xff"}
	for range 400 {
		var b strings.Builder
		for range r.Intn(7000) {
			b.WriteString(pieces[r.Intn(len(pieces))])
			if r.Intn(9000) == 0 {
				b.WriteString(rare[r.Intn(len(rare))])
			}
		}
		if got, want := told(b.String()), answer(m.lex(b.String())); got != want {
			t.Fatalf("a text of %d bytes: %.300s instead of %.300s", b.Len(), got, want)
		}
		follows(t, b.String())
	}
}

// follows asks P4.4's first half of a text: lexemes rise, and between them stand blanks and remarks alone.
func follows(t *testing.T, s string) {
	t.Helper()
	all, _, err := lex.Lex(s)
	if err != api.OK {
		return
	}
	gap := newMeaning().gap
	end := 0
	for _, l := range append(all, lex.Lexeme{At: len(s), End: len(s)}) {
		if l.At < end || l.End < l.At || gap.FindString(s[end:]) != s[end:l.At] {
			t.Fatalf("a text of %d bytes: a lexeme from %d to %d behind one that ends at %d", len(s), l.At, l.End, end)
		}
		end = l.End
	}
}

// P4.4: what lexemes say, written and read again one by one, is what they said.
func TestRises(t *testing.T) {
	s := "class A extends B // \"no\n x: int; y: text end\nrule r when $a: A(x >= 1 && y != \"q\\\"\") then print $a.x; end"
	follows(t, s)
	all, _, err := lex.Lex(s)
	if err != api.OK || len(all) < 30 {
		t.Fatalf("%d lexemes, %d", len(all), err)
	}
	for _, l := range all {
		alone := l
		alone.At, alone.End = 0, l.End-l.At
		same(t, s[l.At:l.End], alone)
	}
}
