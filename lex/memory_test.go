package lex_test

import (
	"strings"
	"sync"
	"testing"
	"unsafe"

	"proctor/api"
	"proctor/lex"
)

const mixed = "rule $x 12 \"a\\n\" == ( \"plain\" // end"

// P4.5, R2: an answer is new memory: to write all over it changes no later one.
func TestMemoryTold(t *testing.T) {
	want := told(mixed)
	all, _, _ := lex.Lex(mixed)
	all = all[:cap(all)]
	for i := range all {
		all[i] = lex.Lexeme{Kind: -1, Text: "spoilt", At: -1, End: -1}
	}
	if told(mixed) != want {
		t.Error("a later answer has changed")
	}
}

// P4.5, R2: no lexeme keeps the text in which it stood: what the text's bytes become doesn't change it.
func TestMemoryKept(t *testing.T) {
	want := told(mixed)
	bytes := []byte(mixed)
	all, at, err := lex.Lex(unsafe.String(&bytes[0], len(bytes)))
	quote := lex.Quote(unsafe.String(&bytes[0], len(bytes)))
	for i := range bytes {
		bytes[i] = '#'
	}
	if answer(all, at, err) != want || quote != lex.Quote(mixed) {
		t.Error("an answer shares the text's memory")
	}
}

// P4.5, R2, R4: without a lexeme, and beside an error, the list is nil or empty and the place of no fault is 0.
func TestMemoryNone(t *testing.T) {
	for _, s := range []string{"", "// a", "a #", "a \"", strings.Repeat("a", api.MaxText+1), strings.Repeat("a ", api.MaxLex+1)} {
		if all, at, err := lex.Lex(s); len(all) != 0 || err != api.ErrSyntax && at != 0 {
			t.Errorf("%.20q: %d lexemes, at %d, %d", s, len(all), at, err)
		}
	}
}

// P4.5, R6: calls at once tell what they tell alone.
func TestTogether(t *testing.T) {
	texts := []string{mixed, "a b c", "#", "x \"", strings.Repeat("(", api.MaxLex+1), strings.Repeat("(", api.MaxLex), ""}
	var want []string
	for _, s := range texts {
		want = append(want, told(s))
	}
	var all sync.WaitGroup
	for range 4 {
		for i, s := range texts {
			all.Go(func() {
				if told(s) != want[i] {
					t.Errorf("%.20q is told otherwise", s)
				}
			})
		}
	}
	all.Wait()
}

// P4.5, R3: every call ends, whatever it is handed, a text far beyond what may be among it.
func TestEnds(t *testing.T) {
	for c := range 256 {
		one := string([]byte{byte(c)})
		for _, n := range []int{1, 2, 3, api.MaxText - 1, api.MaxText, api.MaxText + 1} {
			s := strings.Repeat(one, n)
			lex.Lex(s)
			lex.Key(s)
			if q := lex.Quote(s); len(q) < n+2 {
				t.Fatalf("Quote of %d bytes %q: %d bytes", n, one, len(q))
			}
		}
	}
	huge := strings.Repeat("a ", 1<<24)
	if got := told(huge); got != answer(nil, 0, api.ErrLong) || lex.Key(huge) {
		t.Errorf("a huge text: %.100s", got)
	}
}
