package lex

import (
	"iter"
	"strings"
)

const marksOfOne = "()[]{},.:;?<>=+-*/%!"

// lexemes tells the lexemes one by one, so that whoever ranges over them ends the scan where there are too many. A false is told last: no lexeme may begin at its At.
func lexemes(text string) iter.Seq2[Lexeme, bool] {
	return func(yield func(Lexeme, bool) bool) {
		at := 0
	next:
		at = behindBlanks(text, at)
		if at == len(text) {
			return
		}
		l, may := lexemeAt(text, at)
		if !yield(l, may) || !may {
			return
		}
		at = l.End
		goto next
	}
}

// behindBlanks tells where the next lexeme must begin: behind blanks and remarks, in any mixture.
func behindBlanks(text string, at int) int {
blank:
	if at < len(text) && isBlank(text[at]) {
		at++
		goto blank
	}
	if !strings.HasPrefix(text[at:], "//") {
		return at
	}
remark:
	if at == len(text) {
		return at
	}
	if text[at] == '\n' {
		goto blank
	}
	at++
	goto remark
}

func lexemeAt(text string, at int) (Lexeme, bool) {
	switch c := text[at]; {
	case isLetter(c):
		return cut(Word, text, at, at, behindWord(text, at)), true
	case isDigit(c):
		return cut(Int, text, at, at, behindDigits(text, at)), true
	case c == '$':
		return variable(text, at)
	case c == '"':
		return quoted(text, at)
	}
	return mark(text, at)
}

// cut copies what the lexeme says: a piece of the text would keep the whole of it.
func cut(kind int, text string, at, from, end int) Lexeme {
	return Lexeme{Kind: kind, Text: strings.Clone(text[from:end]), At: at, End: end}
}

// barred tells only a place: the lexeme that was to begin there is none.
func barred(at int) (Lexeme, bool) { return Lexeme{At: at}, false }

func variable(text string, at int) (Lexeme, bool) {
	from := at + 1
	if from == len(text) || !isLetter(text[from]) {
		return barred(at)
	}
	return cut(Var, text, at, from, behindWord(text, from)), true
}

func behindWord(text string, at int) int {
more:
	if at < len(text) && (isLetter(text[at]) || isDigit(text[at]) || text[at] == '_') {
		at++
		goto more
	}
	return at
}

func behindDigits(text string, at int) int {
more:
	if at < len(text) && isDigit(text[at]) {
		at++
		goto more
	}
	return at
}

// mark looks for two bytes first: a lexeme is the longest that begins at its place.
func mark(text string, at int) (Lexeme, bool) {
	if at+1 < len(text) && isMarkOfTwo(text[at:at+2]) {
		return cut(Mark, text, at, at, at+2), true
	}
	if strings.IndexByte(marksOfOne, text[at]) < 0 {
		return barred(at)
	}
	return cut(Mark, text, at, at, at+1), true
}

func isMarkOfTwo(s string) bool {
	switch s {
	case "==", "!=", "<=", ">=", "&&", "||":
		return true
	}
	return false
}

func isBlank(c byte) bool { return c == ' ' || c == '\t' || c == '\r' || c == '\n' }

func isLetter(c byte) bool { return 'a' <= c && c <= 'z' || 'A' <= c && c <= 'Z' }

func isDigit(c byte) bool { return '0' <= c && c <= '9' }
