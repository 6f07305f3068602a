package parse_test

import (
	"math/rand"
	"regexp"
	"strconv"
	"strings"
	"testing"

	"proctor/api"
	"proctor/lex"
	"proctor/parse"
)

// chapter is the chapter's grammar as it stands there, without its remarks.
const chapter = `
file    = decl*
decl    = "class" name ("extends" name)? "{" (field (","? field)*)? "}"
        | "rule" text attr* "when" cond* "then" action* "end"
        | "query" name "(" (var ("," var)*)? ")" cond* "end"
field   = name ":" ("int" | "bool" | "text" | "list" | "any" | "ref" name)
attr    = "salience" "-"? int | "group" text | "flow" text | "noloop" | "lock"
cond    = (var ":")? name "(" (item ("," item)*)? ")"
        | "not" block | "exists" block | "forall" "(" cond+ ";" cond+ ")"
        | "(" cond+ ("or" cond+)+ ")"
        | var "from" expr | "eval" "(" expr ")"
        | "acc" "(" var ":" fn "(" expr ")" "over" cond+ ")"
        | "?" name "(" (arg ("," arg)*)? ")"
block   = "(" cond+ ")"
item    = var ":" name | expr
fn      = name | "list"
arg     = var "?" | expr
action  = ("insert" | "logical") name "{" (set ("," set)*)? "}" ";"
        | "update" expr "{" set ("," set)* "}" ";" | "delete" expr ";"
        | "focus" text ";" | "print" expr ";" | "halt" ";"
set     = name "=" expr
expr    = and ("||" and)*
and     = comp ("&&" comp)*
comp    = sum (("==" | "!=" | "<" | "<=" | ">" | ">=") sum)?
sum     = prod (("+" | "-") prod)*
prod    = sign (("*" | "/" | "%") sign)*
sign    = "-" sign | "!" sign | post
post    = atom ("." name)*
atom    = int | text | "true" | "false" | "null" | var | name | "(" expr ")"
        | "[" (expr ("," expr)*)? "]" | "size" "(" expr ")" | "has" "(" expr "," expr ")"
`

// form is a piece of a grammar: a terminal, another form's name, or a composition of parts.
type form struct {
	id    int
	kind  byte // t: a terminal; n: a name; s: a sequence; |: alternatives; * + ?
	text  string
	parts []*form
}

type grammar struct {
	forms map[string]*form
	words []string
	many  int
}

func newGrammar() *grammar {
	g := &grammar{forms: map[string]*form{}, words: regexp.MustCompile(`"[^"]*"|[a-z]+|[^\sa-z"]`).FindAllString(chapter, -1)}
	for len(g.words) > 0 {
		name := g.words[0]
		g.words = g.words[2:]
		g.forms[name] = g.alternatives()
	}
	return g
}

func (g *grammar) form(kind byte, text string, parts ...*form) *form {
	g.many++
	return &form{id: g.many, kind: kind, text: text, parts: parts}
}

func (g *grammar) next(s string) bool { return len(g.words) > 0 && g.words[0] == s }

func (g *grammar) alternatives() *form {
	all := []*form{g.sequence()}
	for g.next("|") {
		g.words = g.words[1:]
		all = append(all, g.sequence())
	}
	return g.form('|', "", all...)
}

func (g *grammar) sequence() *form {
	var all []*form
	for len(g.words) > 0 && !g.next("|") && !g.next(")") && !(len(g.words) > 1 && g.words[1] == "=") {
		all = append(all, g.repeated())
	}
	return g.form('s', "", all...)
}

func (g *grammar) repeated() *form {
	word := g.words[0]
	g.words = g.words[1:]
	var f *form
	switch {
	case word == "(":
		f = g.alternatives()
		g.words = g.words[1:]
	case word[0] == '"':
		f = g.form('t', word)
	case word == "name" || word == "var" || word == "int" || word == "text":
		f = g.form('t', word)
	default:
		f = g.form('n', word)
	}
	for g.next("*") || g.next("+") || g.next("?") {
		f = g.form(g.words[0][0], "", f)
		g.words = g.words[1:]
	}
	return f
}

// run goes through all ways in which a grammar may read lexemes; far is the furthest lexeme that was asked for.
type run struct {
	g    *grammar
	all  []lex.Lexeme
	memo map[[2]int][]int
	far  int
}

// ends tells where f may end, if it begins at at.
func (r *run) ends(f *form, at int) []int {
	key := [2]int{f.id, at}
	if l, is := r.memo[key]; is {
		return l
	}
	var l []int
	switch f.kind {
	case 't':
		r.far = max(r.far, at)
		if at < len(r.all) && fits(f.text, r.all[at]) {
			l = []int{at + 1}
		}
	case 'n':
		l = r.ends(r.g.forms[f.text], at)
	case '|':
		for _, p := range f.parts {
			l = merged(l, r.ends(p, at))
		}
	case 's':
		l = []int{at}
		for _, p := range f.parts {
			var behind []int
			for _, from := range l {
				behind = merged(behind, r.ends(p, from))
			}
			l = behind
		}
	case '?':
		l = merged([]int{at}, r.ends(f.parts[0], at))
	case '*', '+':
		l = r.ends(f.parts[0], at)
		for i := 0; i < len(l); i++ {
			l = merged(l, r.ends(f.parts[0], l[i]))
		}
		if f.kind == '*' {
			l = merged(l, []int{at})
		}
	}
	r.memo[key] = l
	return l
}

func merged(l, more []int) []int {
	out := append([]int(nil), l...)
	for _, n := range more {
		there := false
		for _, k := range out {
			there = there || k == n
		}
		if !there {
			out = append(out, n)
		}
	}
	return out
}

func fits(terminal string, l lex.Lexeme) bool {
	switch terminal {
	case "name":
		return l.Kind == lex.Word && !lex.Key(l.Text) && len(l.Text) <= 64
	case "var":
		return l.Kind == lex.Var && len(l.Text) <= 64
	case "int":
		_, err := strconv.ParseInt(l.Text, 10, 64)
		return l.Kind == lex.Int && err == nil
	case "text":
		return l.Kind == lex.Text
	}
	return (l.Kind == lex.Word || l.Kind == lex.Mark) && l.Text == terminal[1:len(terminal)-1]
}

// read tells what the grammar says of a text that is of the form of that name: no more than whether it is read, and the place.
func (g *grammar) read(name, s string) (int, api.Errno) {
	all, at, err := lex.Lex(s)
	if err != api.OK {
		return at, err
	}
	r := &run{g: g, all: all, memo: map[[2]int][]int{}}
	for _, end := range r.ends(g.forms[name], 0) {
		if end == len(all) {
			return 0, api.OK
		}
		r.far = max(r.far, end)
	}
	if r.far == len(all) {
		return len(s), api.ErrSyntax
	}
	return all[r.far].At, api.ErrSyntax
}

func (g *grammar) agrees(t *testing.T, s string) {
	t.Helper()
	at, err := g.read("file", s)
	if _, gotAt, got := parse.Parse(s); got != err || gotAt != at {
		t.Fatalf("Parse(%q): %d at %d, the grammar says %d at %d", s, got, gotAt, err, at)
	}
}

func (g *grammar) agreesExpr(t *testing.T, s string) {
	t.Helper()
	at, err := g.read("expr", s)
	if _, gotAt, got := parse.Expr(s); got != err || gotAt != at {
		t.Fatalf("Expr(%q): %d at %d, the grammar says %d at %d", s, got, gotAt, err, at)
	}
}

// walk hands on every text of at most most of the pieces, one behind the other.
func walk(pieces []string, most int, do func(s string)) {
	var more func(s string, left int)
	more = func(s string, left int) {
		do(s)
		if left > 0 {
			for _, p := range pieces {
				more(s+p+" ", left-1)
			}
		}
	}
	more("", most)
}

// P5.1, P5.2: every text of few lexemes is read, or barred at its place, as the chapter's grammar says.
func TestGrammarOfShort(t *testing.T) {
	g := newGrammar()
	walk([]string{"1", `"t"`, "true", "$v", "a", "(", ")", "[", "]", "size", "has", ",", ".", "-", "!", "+", "<", "||", ";"}, 3, func(s string) { g.agreesExpr(t, s) })
	walk([]string{"a", "(", ")", "[", "]", "size", ",", ".", "-", "=="}, 4, func(s string) { g.agreesExpr(t, s) })
	walk([]string{"class", "rule", "query", "A", "extends", "{", "}", ":", "int", "ref", ",", `"r"`, "when", "then", "end", "(", ")", "$v", "salience", "1", "-"}, 3, func(s string) { g.agrees(t, s) })
	walk([]string{"x", ":", ",", "int", "ref", "}", "{"}, 4, func(s string) { g.agrees(t, "class A { "+s) })
	walk([]string{"P", "$v", ":", "(", ")", "not", "or", "from", "x", "?", ",", ";", "then", "eval", "acc", "list", "over", "forall"}, 3, func(s string) {
		g.agrees(t, `rule "" when `+s)
		g.agrees(t, `rule "" when P ( `+s)
		g.agrees(t, `rule "" when ? q ( `+s)
		g.agrees(t, `rule "" when ( P ( ) `+s)
		g.agrees(t, `rule "" when acc ( `+s)
		g.agrees(t, `query q ( ) forall ( P ( ) `+s)
	})
	walk([]string{"insert", "update", "delete", "focus", "print", "halt", "logical", "a", "1", `"t"`, "{", "}", "=", ",", ";", "end"}, 3, func(s string) {
		g.agrees(t, `rule "" when then `+s)
		g.agrees(t, `rule "" when then insert A { x `+s)
		g.agrees(t, `rule "" when then update a { x = 1 `+s)
	})
	walk([]string{"salience", "-", "1", "group", `"g"`, "flow", "noloop", "lock", "when", "+"}, 4, func(s string) { g.agrees(t, `rule "" `+s) })
}

// sample has each production of the grammar.
const sample = `class A extends B { x : int , y : ref A z : any } query q ( $a , $b ) P ( $a : x , x > $b . y ) ? p ( $a ? , 1 ) end
rule "r" salience - 1 group "g" noloop when $p : P ( ) not ( P ( ) Q ( ) ) forall ( P ( ) ; Q ( ) ) ( P ( ) or Q ( ) exists ( P ( ) ) )
$f from [ 1 , - a ] eval ( ! ( x || y ) && size ( z ) == has ( a , "t" ) ) acc ( $s : list ( $x * 2 ) over P ( ) )
then insert A { x = 1 , y = null } ; update $p { x = 2 } ; delete $p ; focus "g" ; print a . b ; halt ; end`

// P5.1, P5.3: so is each file that is cut, and each in which a lexeme or two are others, away, doubled or strewn in.
func TestGrammarOfChanged(t *testing.T) {
	g := newGrammar()
	words := strings.Fields(sample)
	g.agrees(t, sample)
	for i := range words {
		g.agrees(t, strings.Join(words[:i], " "))
		g.agrees(t, strings.Join(append(append([]string(nil), words[:i]...), words[i+1:]...), "\n"))
	}
	r := rand.New(rand.NewSource(5))
	for range 3000 {
		from := r.Intn(len(words))
		changed := append([]string(nil), words...)
		for range 1 + r.Intn(2) {
			switch i := r.Intn(len(changed)); r.Intn(4) {
			case 0:
				changed[i] = words[from]
			case 1:
				changed = append(changed[:i], changed[i+1:]...)
			case 2:
				changed = append(changed[:i], append([]string{words[from]}, changed[i:]...)...)
			case 3:
				j := r.Intn(len(changed))
				changed[i], changed[j] = changed[j], changed[i]
			}
		}
		g.agrees(t, strings.Join(changed, " "))
	}
}
