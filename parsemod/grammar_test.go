package parsemod_test

import (
	"fmt"
	"strings"

	"wafer/api"
	"wafer/lex"
	"wafer/names"
)

// grammar: that of chapter 5 and that of chapter 7, as they stand there.
const grammar = `
ty     = pairty [ "->" ty ]
pairty = aty ( "*" aty )*
aty    = "int" | "bool" | "unit" | TYVAR | path LOWER | "(" ty ")"
path   = ( UPPER "." )*
pat    = path UPPER [ apat ] | apat
apat   = "_" | LOWER | INT | "true" | "false" | path UPPER
       | "(" ")" | "(" pat ")" | "(" pat "," pat ")"
exp    = "fn" pat "=>" exp | "if" exp "then" exp "else" exp | cmp
dec    = "val" LOWER [ ":" ty ] "=" exp
       | "fun" LOWER LOWER ( LOWER )* [ ":" ty ] "=" exp
cmp    = sum [ ( "=" | "<" ) sum ]
sum    = prod ( ( "+" | "-" ) prod )*
prod   = app ( ( "*" | "/" ) app )*
app    = atom ( atom )*
atom   = INT | "true" | "false" | path LOWER | path UPPER
       | "(" ")" | "(" exp ")" | "(" exp "," exp ")" | "(" exp ":" ty ")"
       | "let" dec* "in" exp "end"
       | "case" exp "of" [ "|" ] pat "=>" exp ( "|" pat "=>" exp )* "end"
unit   = mdec*
mdec   = dec
       | "type" LOWER "=" ty
       | "data" LOWER "=" cons
       | "structure" UPPER [ seal ] "=" mod
       | "signature" UPPER "=" sig
       | "functor" UPPER "(" UPPER ":" sig ")" [ seal ] "=" mod
cons   = [ "|" ] con ( "|" con )*
con    = UPPER [ "of" ty ]
seal   = ( ":" | ":>" ) sig
mod    = amod ( seal )*
amod   = "struct" mdec* "end" | "let" mdec* "in" mod "end" | "(" mod ")"
       | path UPPER [ "(" mod ")" ]
sig    = asig ( "where" "type" path LOWER "=" ty )*
asig   = "sig" spec* "end" | path UPPER
spec   = "val" LOWER ":" ty
       | "type" LOWER [ "=" ty ]
       | "data" LOWER "=" cons
       | "structure" UPPER ":" sig
`

// production: one way in which a symbol can be written.
type production struct {
	head string
	body []string
}

// maker: makes productions out of the grammar's text; a part in parentheses or brackets gets a symbol of its own.
type maker struct {
	words []string
	made  []production
	parts int
}

func (m *maker) head() bool { return len(m.words) > 1 && m.words[1] == "=" }

func (m *maker) next() string {
	w := m.words[0]
	m.words = m.words[1:]
	return w
}

// part: a new symbol for alternatives; often: it may stand any number of times; maybe: it may lack.
func (m *maker) part(bodies [][]string, often, maybe bool) string {
	m.parts++
	name := fmt.Sprint("part", m.parts)
	if often || maybe {
		m.made = append(m.made, production{name, nil})
	}
	for _, b := range bodies {
		if often {
			b = append([]string{name}, b...)
		}
		m.made = append(m.made, production{name, b})
	}
	return name
}

// closes: does a part of the grammar end here?
func closes(w string) bool { return w == ")" || w == ")*" || w == "]" }

func (m *maker) alternatives() [][]string {
	all := [][]string{nil}
	for len(m.words) > 0 && !m.head() && !closes(m.words[0]) {
		last := &all[len(all)-1]
		switch w := m.next(); w {
		case "|":
			all = append(all, nil)
		case "(", "[":
			bodies := m.alternatives()
			end := m.next()
			*last = append(*last, m.part(bodies, end == ")*", end == "]"))
		default:
			*last = append(*last, m.symbol(w))
		}
	}
	return all
}

// symbol: a word of the grammar; with a star behind it any number of it.
func (m *maker) symbol(w string) string {
	if name, often := strings.CutSuffix(w, "*"); often && !strings.HasPrefix(w, `"`) {
		return m.part([][]string{{name}}, true, false)
	}
	return w
}

var rules = productions()

// productions: the grammar's, by their heads.
func productions() map[string][]production {
	m := maker{words: strings.Fields(grammar)}
	for len(m.words) > 0 {
		head := m.next()
		m.next()
		for _, body := range m.alternatives() {
			m.made = append(m.made, production{head, body})
		}
	}
	by := map[string][]production{}
	for _, p := range m.made {
		by[p.head] = append(by[p.head], p)
	}
	return by
}

// item: so much of a production is read, from a token on.
type item struct {
	head      string
	way, dot  int
	fromToken int
}

// chart: for each number of tokens from the beginning on what may be under way there (Earley's way, which knows nothing of choices that are made too early).
type chart struct{ sets [][]item }

func newChart(start string) chart {
	var first []item
	for way := range rules[start] {
		first = append(first, item{start, way, 0, 0})
	}
	return chart{}.with(first)
}

// wants: the symbol that comes next in an item, "" at its end.
func (i item) wants() string {
	if b := rules[i.head][i.way].body; i.dot < len(b) {
		return b[i.dot]
	}
	return ""
}

// with: the chart with one more set, closed from these items on. What can be empty is asked for again and again till nothing is new.
func (c chart) with(kernel []item) chart {
	at := len(c.sets)
	seen := map[item]bool{}
	var set []item
	add := func(i item) bool {
		if seen[i] {
			return false
		}
		seen[i] = true
		set = append(set, i)
		return true
	}
	for _, i := range kernel {
		add(i)
	}
	for again := true; again; {
		again = false
		for n := 0; n < len(set); n++ {
			i := set[n]
			w := i.wants()
			for way := range rules[w] {
				again = add(item{w, way, 0, at}) || again
			}
			if w != "" {
				continue
			}
			from := set
			if i.fromToken < at {
				from = c.sets[i.fromToken]
			}
			for _, j := range from {
				if j.wants() == i.head {
					j.dot++
					again = add(j) || again
				}
			}
		}
	}
	c.sets = append(c.sets[:at:at], set)
	return c
}

// step: the chart behind one more token; false if nothing can go on with it.
func (c chart) step(t lex.Token) (chart, bool) {
	var kernel []item
	for _, i := range c.sets[len(c.sets)-1] {
		if i.wants() == terminal(t) {
			i.dot++
			kernel = append(kernel, i)
		}
	}
	if kernel == nil {
		return c, false
	}
	return c.with(kernel), true
}

// whole: are the tokens up to here all of it?
func (c chart) whole(start string) bool {
	for _, i := range c.sets[len(c.sets)-1] {
		if i.head == start && i.fromToken == 0 && i.wants() == "" {
			return true
		}
	}
	return false
}

// terminal: how the grammar writes a token.
func terminal(t lex.Token) string {
	switch t.Kind {
	case lex.Lower:
		return "LOWER"
	case lex.Upper:
		return "UPPER"
	case lex.Int:
		return "INT"
	case lex.Tyvar:
		return "TYVAR"
	}
	return `"` + t.Text + `"`
}

// along: how many more tokens a rule can go along from a chart on, and whether it can end behind them.
func (c chart) along(start string, tokens []lex.Token) (int, bool) {
	for n, t := range tokens {
		next, ok := c.step(t)
		if !ok {
			return n, c.whole(start)
		}
		c = next
	}
	return len(tokens), c.whole(start)
}

// ended: the items that are read to their end anywhere along these tokens.
func (c chart) ended(tokens []lex.Token) []item {
	for _, t := range tokens {
		next, ok := c.step(t)
		if !ok {
			panic("the rule can't go on with " + t.Text)
		}
		c = next
	}
	var l []item
	for _, set := range c.sets {
		for _, i := range set {
			if i.wants() == "" {
				l = append(l, i)
			}
		}
	}
	return l
}

// headsOf: these symbols, and those that parts of their alternatives got.
func headsOf(symbols ...string) []string {
	var l []string
	for _, s := range symbols {
		l = append(l, s)
		for _, p := range rules[s] {
			for _, b := range p.body {
				if strings.HasPrefix(b, "part") && b != s {
					l = append(l, headsOf(b)...)
				}
			}
		}
	}
	return l
}

func tokensOf(s string) []lex.Token {
	l, _, e := lex.Lex(s)
	if e != api.OK {
		panic(s)
	}
	return l
}

// bigPath: the place of the first name of the first path of more than MaxPath names; points stand nowhere else.
func bigPath(tokens []lex.Token) (int, bool) {
	many, first := 0, 0
	for n, t := range tokens {
		switch {
		case t.Kind != lex.Upper && t.Kind != lex.Lower:
			continue
		case n > 0 && tokens[n-1].Text == ".":
			many++
		default:
			many, first = 1, t.At
		}
		if many > api.MaxPath {
			return first, true
		}
	}
	return 0, false
}

// expect: the place and the error of a text that is read by a rule, by the chapters' words (but for ErrDeep).
func expect(start, s string) (int, api.Errno) {
	tokens, at, e := lex.Lex(s)
	if e != api.OK {
		return at, e
	}
	n, whole := newChart(start).along(start, tokens)
	return expectAt(s, tokens, n, whole)
}

// expectAt: the place and the error of a text with these tokens, of which a rule can go along so many.
func expectAt(s string, tokens []lex.Token, n int, whole bool) (int, api.Errno) {
	if at, big := bigPath(tokens[:n]); big {
		return at, api.ErrBig
	}
	if n < len(tokens) {
		return tokens[n].At, api.ErrSyntax
	}
	if !whole {
		return len(s), api.ErrSyntax
	}
	return 0, api.OK
}

// alphabet: a token of each sort that lex has, and all words and marks.
func alphabet() []string {
	l := []string{"x", "A", "7", "'a"}
	l = append(l, names.Words()...)
	return append(l, strings.Fields(":> => -> ( ) , ; : = * + - / < | _ .")...)
}
