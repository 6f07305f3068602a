package print

import (
	"strconv"

	"proctor/api"
	"proctor/lex"
)

const longestName = 64

// letters is a text while it grows. One byte more than a text may have tells that it is too long; none is kept behind that.
type letters []byte

func (l *letters) add(s string) {
	room := api.MaxText + 1 - len(*l)
	*l = append(*l, s[:min(len(s), room)]...)
}

func (l letters) long() bool { return len(l) > api.MaxText }

// writer writes lexemes from left to right, and counts what parse counts: lexemes, what is open within one another, how deep the expression is that it is in.
type writer struct {
	letters
	lexemes int
	open    int
	deep    int
}

// barred is what a writer panics with: what it was to write may not be written.
type barred struct{}

func bar() { panic(barred{}) }

func barUnless(may bool) {
	if !may {
		bar()
	}
}

// put writes lexemes, with a blank between each two.
func (w *writer) put(all ...string) {
	for _, s := range all {
		barUnless(w.lexemes < api.MaxLex)
		w.lexemes++
		if len(w.letters) > 0 {
			w.add(" ")
		}
		w.add(s)
	}
}

// push writes a mark that stays open up to its pop.
func (w *writer) push(mark string) {
	barUnless(w.open < api.MaxDeep)
	w.open++
	w.put(mark)
}

// pop ends what was opened last. What a sign opens ends without a mark.
func (w *writer) pop() { w.open-- }

// within writes what stands between two marks.
func (w *writer) within(from, to string, inner func()) {
	w.push(from)
	inner()
	w.put(to)
	w.pop()
}

// commas writes items with commas between.
func commas[T any](w *writer, l []T, item func(T)) {
	for i, x := range l {
		if i > 0 {
			w.put(",")
		}
		item(x)
	}
}

// reads asks lex itself what a word is: s must be one lexeme of that kind that says says.
func reads(s string, kind int, says string) bool {
	all, _, err := lex.Lex(s)
	return err == api.OK && len(all) == 1 && all[0].Kind == kind && all[0].Text == says
}

func (w *writer) name(s string) {
	barUnless(len(s) <= longestName && reads(s, lex.Word, s) && !lex.Key(s))
	w.put(s)
}

func (w *writer) variable(s string) {
	barUnless(len(s) <= longestName && reads("$"+s, lex.Var, s))
	w.put("$" + s)
}

// text writes a quoted text. Of one that is too long in any case no more is quoted than tells so.
func (w *writer) text(s string) {
	for i := range len(s) {
		barUnless(s[i] >= ' ' || s[i] == '\n' || s[i] == '\t')
	}
	w.put(lex.Quote(s[:min(len(s), api.MaxText)]))
}

// number writes digits alone: a sign would be a lexeme of its own.
func (w *writer) number(n int64) {
	barUnless(n >= 0)
	w.put(strconv.FormatInt(n, 10))
}
