package parsemod_test

import (
	"math/rand"
	"slices"
	"strings"
	"testing"

	"wafer/api"
	"wafer/lex"
)

// longUnit: every rule of the grammar, most of them within others.
const longUnit = `val x : int -> M.t = fn (y, A z) => f y + 1
fun f x y : 'a * t = let val a = 1 fun g b = b in g (case x of | A => 1 | M.B (c, _) => 2 end) end
type t = (int * bool) -> unit
data d = | A | B of t * int | C of 'a
structure A :> sig type t type u = t val x : t data d = D | E of u structure N : sig type t end where type t = int where type M.u = t end
  where type t = int where type N.O.u = bool = struct val x = 1 structure N = M.N : S :> M.T structure O : S = (F(X)) :> T end
signature S = M.S where type t = A.t -> int
signature T = sig end
functor F(X : sig val x : int end) : S where type t = int = let type t = int data e = | G in ((M.G(struct val y = X.x end : T))) end
functor G(X : S) = let in struct end end : S
structure B = M`

// charts: what the grammar has under way ahead of each token of a text, and at its end.
func charts(rule string, tokens []lex.Token) []chart {
	l := []chart{newChart(rule)}
	for _, t := range tokens {
		next, ok := l[len(l)-1].step(t)
		if !ok {
			panic("the rule can't go on with " + t.Text)
		}
		l = append(l, next)
	}
	return l
}

// splice: the texts of tokens with some of them changed, one blank between any two, and its tokens.
func splice(tokens []lex.Token, from, to int, with ...string) (string, []lex.Token) {
	var l []string
	for _, t := range tokens {
		l = append(l, t.Text)
	}
	s := strings.Join(slices.Replace(l, from, to, with...), " ")
	return s, tokensOf(s)
}

// TestP701Everywhere: a long unit that is cut off ahead of each of its tokens, that has a wrong one there, one more or one less.
func TestP701Everywhere(t *testing.T) {
	tokens := tokensOf(longUnit)
	all := charts("unit", tokens)
	check := func(n int, s string, changed []lex.Token) {
		t.Helper()
		more, whole := all[n].along("unit", changed[n:])
		at, e := expectAt(s, changed, n+more, whole)
		checkAnswer(t, "unit", s, at, e)
	}
	wrong := 0
	for n := range len(tokens) + 1 {
		s, changed := splice(tokens, n, len(tokens))
		check(n, s, changed)
		for _, other := range alphabet() {
			s, changed := splice(tokens, n, n, other)
			check(n, s, changed)
			s, changed = splice(tokens, n, min(n+1, len(tokens)), other)
			check(n, s, changed)
			if _, can := all[n].step(changed[n]); !can {
				wrong++
				checkError(t, "unit", s, changed[n].At, api.ErrSyntax)
			}
		}
		s, changed = splice(tokens, n, min(n+1, len(tokens)))
		check(n, s, changed)
	}
	if wrong < 20*len(tokens) {
		t.Errorf("only %d wrong tokens were tried", wrong)
	}
}

// TestP701CutOff: the long unit is cut off at each of its bytes; between two declarations it is whole.
func TestP701CutOff(t *testing.T) {
	for n := range longUnit {
		checkPlace(t, "unit", longUnit[:n])
	}
	node, at, e := call("unit", longUnit)
	if l, ok := node.([]api.Dec); !ok || len(l) != 10 || at != 0 || e != api.OK {
		t.Errorf("%s, %d, %v", brief(shown(node)), at, e)
	}
}

// small: every text of at most so many of these tokens.
func small(tokens []string, most int) []string {
	all := []string{""}
	for first := 0; most > 0; most-- {
		last := len(all)
		for _, s := range all[first:last] {
			for _, t := range tokens {
				all = append(all, s+t+" ")
			}
		}
		first = last
	}
	return all
}

// TestP701Small: every text of a few tokens, and behind beginnings too.
func TestP701Small(t *testing.T) {
	for _, rule := range faces() {
		for _, s := range small(alphabet(), 2) {
			checkPlace(t, rule, s)
		}
	}
	for _, s := range small(strings.Fields("M ( ) : :> . struct let in end"), 4) {
		checkPlace(t, "mod", s)
	}
	for _, s := range small(strings.Fields("S sig type val t where : = end ."), 4) {
		checkPlace(t, "sig", s)
	}
	for _, begin := range []string{"type t", "data t =", "structure M", "functor F(X : S)", "signature S ="} {
		for _, s := range small(strings.Fields("= : :> A t | of ( ) sig end . where"), 3) {
			checkPlace(t, "mdec", begin+" "+s)
			checkPlace(t, "unit", "val x = A "+begin+" "+s)
		}
	}
}

// prefix: random tokens by which a rule can go on, at most so many.
func prefix(r *rand.Rand, rule string, most int) ([]string, chart) {
	c := newChart(rule)
	var l []string
	for range most {
		var can []string
		var after []chart
		for _, text := range alphabet() {
			if next, ok := c.step(tokensOf(text)[0]); ok {
				can, after = append(can, text), append(after, next)
			}
		}
		if can == nil {
			break
		}
		n := r.Intn(len(can))
		l, c = append(l, can[n]), after[n]
	}
	return l, c
}

// TestP701Prefixes: behind a beginning that can go on, every token there is.
func TestP701Prefixes(t *testing.T) {
	r := rand.New(rand.NewSource(701))
	for i := range 240 {
		rule := faces()[i%4]
		l, c := prefix(r, rule, r.Intn(30))
		for _, last := range alphabet() {
			s, _ := lay(r, append(slices.Clone(l), last))
			tokens := tokensOf(s)
			more, whole := c.along(rule, tokens[len(l):])
			at, e := expectAt(s, tokens, len(l)+more, whole)
			checkAnswer(t, rule, s, at, e)
		}
	}
}

// spoil: the tokens with one left out, put in, put for another, or with two of them changed round.
func spoil(r *rand.Rand, l []string) []string {
	if len(l) == 0 {
		return []string{alphabet()[r.Intn(len(alphabet()))]}
	}
	l = slices.Clone(l)
	n, other := r.Intn(len(l)), alphabet()[r.Intn(len(alphabet()))]
	switch r.Intn(4) {
	case 0:
		return slices.Delete(l, n, n+1)
	case 1:
		return slices.Insert(l, n, other)
	case 2:
		l[n] = other
	default:
		m := r.Intn(len(l))
		l[n], l[m] = l[m], l[n]
	}
	return l
}

// TestP701Spoilt: texts that are right but for a token.
func TestP701Spoilt(t *testing.T) {
	r := rand.New(rand.NewSource(2701))
	for i := range 2000 {
		rule := faces()[i%4]
		_, tokens := grow(r, rule, 1+r.Intn(4))
		if len(tokens) > 80 {
			continue
		}
		s, _ := lay(r, spoil(r, tokens))
		checkPlace(t, rule, s)
	}
}

// TestP701Bytes: whatever bytes a text has, it is read or has an error.
func TestP701Bytes(t *testing.T) {
	r := rand.New(rand.NewSource(3701))
	starts := []string{"", "structure M", "type t =", "sig ", "struct ", "data t = ", "functor F(X : S)", "M : ", "S where type "}
	for range 3000 {
		b := make([]byte, r.Intn(12))
		for i := range b {
			b[i] = byte(r.Intn(256))
			if r.Intn(8) > 0 {
				b[i] = "xtAM1.(), =:>|*'_\n"[r.Intn(18)]
			}
		}
		s := starts[r.Intn(len(starts))] + string(b)
		for _, rule := range faces() {
			checkPlace(t, rule, s)
		}
	}
}
