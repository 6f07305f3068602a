package parse

import (
	"strconv"

	"proctor/api"
	"proctor/lex"
)

const longestName = 64

// nothing is the kind of what stands behind the last lexeme: no lexeme that the grammar asks for.
const nothing = -1

// fault is what a parser panics with: the place of a lexeme that can't stand there.
type fault struct{ at int }

// parser goes through lexemes from left to right. open counts what is open within one another.
type parser struct {
	rest   []lex.Lexeme
	open   int
	levels []map[string]int
}

func newParser(all []lex.Lexeme, length int) *parser {
	return &parser{rest: append(all, lex.Lexeme{Kind: nothing, At: length, End: length}), levels: levels()}
}

func barAt(at int) { panic(fault{at: at}) }

// bar ends the parser at the lexeme that is next.
func (p *parser) bar() { barAt(p.rest[0].At) }

// end asks that no lexeme is left.
func (p *parser) end() { p.kind(nothing) }

// kind tells the next lexeme, which must be of that kind.
func (p *parser) kind(kind int) lex.Lexeme {
	if p.rest[0].Kind != kind {
		p.bar()
	}
	return p.rest[0]
}

// next takes a lexeme; never what stands behind the last one, which is asked for by end alone.
func (p *parser) next() lex.Lexeme {
	l := p.rest[0]
	p.rest = p.rest[1:]
	return l
}

func (p *parser) isKind(kind int) bool { return p.rest[0].Kind == kind }

// is asks for a keyword or a mark.
func (p *parser) is(s string) bool { return spells(p.rest[0], s) }

// isVarWith asks for a var with that mark right behind it: two lexemes tell a bind from an expression.
func (p *parser) isVarWith(mark string) bool { return p.isKind(lex.Var) && spells(p.rest[1], mark) }

func spells(l lex.Lexeme, s string) bool {
	return (l.Kind == lex.Word || l.Kind == lex.Mark) && l.Text == s
}

// skip takes a keyword or a mark, if it is next.
func (p *parser) skip(s string) bool {
	if !p.is(s) {
		return false
	}
	p.next()
	return true
}

// take takes a keyword or a mark that must be next.
func (p *parser) take(s string) {
	if !p.skip(s) {
		p.bar()
	}
}

// push takes a mark that stays open up to its pop, and tells its place; one too many is barred at itself.
func (p *parser) push(mark string) int {
	if !p.is(mark) || p.open == api.MaxDeep {
		p.bar()
	}
	p.open++
	return p.next().At
}

// pop ends what was opened last. What a sign opens ends without a mark.
func (p *parser) pop() { p.open-- }

// within reads what stands between two marks.
func (p *parser) within(from, to string, inner func()) {
	p.push(from)
	inner()
	p.take(to)
	p.pop()
}

// list reads items with commas between, or none, from mark to mark.
func (p *parser) list(from, to string, item func()) {
	p.within(from, to, func() {
		if !p.is(to) {
			p.commas(item)
		}
	})
}

func (p *parser) commas(item func()) {
	item()
	for p.skip(",") {
		item()
	}
}

func (p *parser) name() string {
	if l := p.kind(lex.Word); lex.Key(l.Text) || len(l.Text) > longestName {
		p.bar()
	}
	return p.next().Text
}

func (p *parser) variable() string {
	if l := p.kind(lex.Var); len(l.Text) > longestName {
		p.bar()
	}
	return p.next().Text
}

func (p *parser) text() string {
	p.kind(lex.Text)
	return p.next().Text
}

// number reads an int that is at most most.
func (p *parser) number(most int64) int64 {
	n, err := strconv.ParseInt(p.kind(lex.Int).Text, 10, 64)
	if err != nil || n > most {
		p.bar()
	}
	p.next()
	return n
}
