package parsemod_test

import (
	"fmt"
	"math"
	"math/rand"
	"reflect"
	"slices"
	"strings"
	"testing"

	"wafer/api"
	"wafer/lex"
	"wafer/parsemod"
	"wafer/print"
	"wafer/tree"
)

// printed: print's text of what one of the calls answers.
func printed(node any) (string, api.Errno) {
	switch n := node.(type) {
	case []api.Dec:
		return print.Unit(n)
	case api.Mod:
		return print.Mod(n)
	case api.Sig:
		return print.Sig(n)
	}
	return print.Dec(node.(api.Dec))
}

// same: are they the same by tree, which asks for no places?
func same(a, b any) bool { return tree.Same(within(a), within(b)) }

// checkBack: is a node read back out of its text? Its text, and how many tokens it has: as many as there may be, and one more, if there are more.
func checkBack(t *testing.T, rule string, node any) (string, int) {
	t.Helper()
	s, e := printed(node)
	if e != api.OK {
		t.Fatalf("%s %s has no text: %v", rule, brief(shown(node)), e)
	}
	tokens, at, e := lex.Lex(s)
	if e == api.ErrBig {
		checkError(t, rule, s, at, api.ErrBig)
		return s, api.MaxTokens + 1
	}
	got, gotAt, gotError := call(rule, s)
	if e != api.OK || gotAt != 0 || gotError != api.OK || !same(node, got) {
		t.Errorf("%s of %q: %s, %d, %v, not %s", rule, brief(s), brief(shown(got)), gotAt, gotError, brief(shown(node)))
	}
	return s, len(tokens)
}

// pairs: which sorts of nodes stand in which, by their kinds.
func pairs(node any, seen map[string]bool) {
	name := func(v reflect.Value) string {
		kind := v.FieldByName("Kind")
		if !kind.IsValid() {
			return v.Type().Name()
		}
		return fmt.Sprint(v.Type().Name(), kind.Int())
	}
	eachStruct(reflect.ValueOf(node), reflect.Value{}, func(v, outer reflect.Value) {
		if outer.IsValid() {
			seen[name(v)+" in "+name(outer)] = true
		}
	})
}

// wantedPairs: those that nodes of modules may make.
func wantedPairs() []string {
	var l []string
	every := func(sort string, kinds int, outer ...string) {
		for kind := 1; kind <= kinds; kind++ {
			for _, o := range outer {
				l = append(l, fmt.Sprint(sort, kind, " in ", o))
			}
		}
	}
	every("Dec", 7, "Mod2", "Mod6")
	every("Mod", 6, "Dec5", "Dec7", "Mod3", "Mod4", "Mod5", "Mod6")
	every("Sig", 3, "Dec6", "Dec7", "Mod4", "Mod5", "Sig3", "Spec4")
	every("Spec", 4, "Sig2")
	every("Ty", 4, "Dec1", "Dec2", "Dec3", "Con", "Spec1", "Spec2", "Sig3")
	return append(l, "Con in Dec4", "Con in Spec3")
}

// TestP703Random: random declarations, structure and signature expressions, with places that they do not have in the text.
func TestP703Random(t *testing.T) {
	r := rand.New(rand.NewSource(703))
	seen := map[string]bool{}
	longest, back := 0, 0
	for i := range 20000 {
		rule := faces()[i%4]
		node, _ := grow(r, rule, 1+r.Intn(9))
		if _, e := printed(node); e == api.ErrBig || e == api.ErrDeep {
			continue
		}
		_, n := checkBack(t, rule, node)
		if n <= api.MaxTokens {
			back++
			longest = max(longest, n)
			pairs(node, seen)
		}
	}
	if back < 10000 || longest < api.MaxTokens*3/4 {
		t.Errorf("%d nodes were read back, of at most %d tokens", back, longest)
	}
	for _, p := range wantedPairs() {
		if !seen[p] {
			t.Errorf("no %s was tried", p)
		}
	}
}

// TestP703Samples: the nodes that are told by hand, and what is read back is printed as it was.
func TestP703Samples(t *testing.T) {
	for _, c := range append(declarations(), expressions()...) {
		read, _, e := call(c.rule, c.s)
		if e != api.OK {
			t.Fatalf("%q: %v", c.s, e)
		}
		s, _ := checkBack(t, c.rule, read)
		again, _, _ := call(c.rule, s)
		if s2, e := printed(again); s2 != s || e != api.OK {
			t.Errorf("%q, and then %q, %v", s, s2, e)
		}
	}
	long, _, _ := parsemod.Unit(longUnit)
	checkBack(t, "unit", long)
	checkBack(t, "unit", []api.Dec(nil))
}

// TestP703Edges: names, paths and numbers at their edges, and what is nested to MaxDepth.
func TestP703Edges(t *testing.T) {
	long := strings.Repeat("n", api.MaxName)
	high := strings.ToUpper(long)
	full := strings.Split(strings.Repeat(high+".", api.MaxPath-1)+high, ".")
	lowFull := append(slices.Clone(full[1:]), long)
	ty := api.Ty{Kind: api.YCon, Path: lowFull}
	m, s := api.Mod{Kind: api.MPath, Path: full}, api.Sig{Kind: api.SPath, Path: full}
	checkBack(t, "mod", m)
	checkBack(t, "mod", api.Mod{Kind: api.MApp, Path: full, Mods: []api.Mod{m}})
	checkBack(t, "sig", s)
	checkBack(t, "sig", api.Sig{Kind: api.SWhere, Sigs: []api.Sig{s}, Path: lowFull, Tys: []api.Ty{ty}})
	checkBack(t, "unit", []api.Dec{
		{Kind: api.DFunctor, At: -1, Name: high, Params: []string{high}, Sigs: []api.Sig{s}, Mods: []api.Mod{m}},
		{Kind: api.DData, At: math.MaxInt, Name: long, Cons: []api.Con{{Name: high, Tys: []api.Ty{ty}}, {Name: high}}},
		{Kind: api.DVal, Name: long, Exps: []api.Exp{{Kind: api.EInt, N: math.MaxInt64}}},
		{Kind: api.DType, At: math.MinInt, Name: long, Tys: []api.Ty{{Kind: api.YVar, Name: long[1:]}}},
	})
	left, right, where := api.Mod{Kind: api.MPath, Path: []string{"M"}}, api.Mod{Kind: api.MPath, Path: []string{"M"}}, api.Sig{Kind: api.SPath, Path: []string{"S"}}
	for range api.MaxDepth - 2 {
		left = api.Mod{Kind: api.MAsc, Mods: []api.Mod{left}, Sigs: []api.Sig{{Kind: api.SPath, Path: []string{"S"}}}}
		right = api.Mod{Kind: api.MApp, Path: []string{"F"}, Mods: []api.Mod{right}}
		where = api.Sig{Kind: api.SWhere, Sigs: []api.Sig{where}, Path: []string{"t"}, Tys: []api.Ty{{Kind: api.YCon, Path: []string{"int"}}}}
	}
	checkBack(t, "unit", []api.Dec{{Kind: api.DStr, Name: "A", Mods: []api.Mod{left}}, {Kind: api.DStr, Name: "A", Mods: []api.Mod{right}}})
	checkBack(t, "mdec", api.Dec{Kind: api.DSig, Name: "A", Sigs: []api.Sig{where}})
}

// TestP703Tokens: a text of MaxTokens tokens is read back, one of more is not.
func TestP703Tokens(t *testing.T) {
	var l []api.Dec
	for range api.MaxTokens / 4 {
		l = append(l, api.Dec{Kind: api.DType, Name: "t", Tys: []api.Ty{{Kind: api.YCon, Path: []string{"t"}}}})
	}
	if _, n := checkBack(t, "unit", l); n != api.MaxTokens {
		t.Errorf("%d tokens, not %d", n, api.MaxTokens)
	}
	if _, n := checkBack(t, "unit", append(l, l[0])); n != api.MaxTokens+1 {
		t.Errorf("%d tokens, not %d", n, api.MaxTokens+1)
	}
}

// TestP704Tokens: two texts with the same tokens and unlike blanks are read alike, but for places, and so are the tokens joined by single blanks; wrong ones are wrong at the same token.
func TestP704Tokens(t *testing.T) {
	r := rand.New(rand.NewSource(704))
	wrong := 0
	for i := range 4000 {
		rule := faces()[i%4]
		_, tokens := grow(r, rule, 1+r.Intn(5))
		for range r.Intn(3) {
			tokens = spoil(r, append(tokens, "x"))
		}
		a, atA := lay(r, tokens)
		b, atB := lay(r, tokens)
		if max(len(a), len(b)) > api.MaxText || len(tokens) > api.MaxTokens {
			continue
		}
		checkPlaces(t, rule, a, b, atA, atB)
		read, _, _ := lex.Lex(a)
		joined := lex.Join(read)
		again, _, e := lex.Lex(joined)
		if e != api.OK {
			t.Fatalf("%q: %v", joined, e)
		}
		var atJoined []int
		for _, token := range again {
			atJoined = append(atJoined, token.At)
		}
		if checkPlaces(t, rule, a, joined, atA, append(atJoined, len(joined))) {
			wrong++
		}
	}
	if wrong < 500 {
		t.Errorf("only %d wrong texts were tried", wrong)
	}
}

// checkPlaces: are two texts, whose tokens stand at these places, read alike, with places of the same tokens? True, if they are wrong.
func checkPlaces(t *testing.T, rule, a, b string, atA, atB []int) bool {
	t.Helper()
	nodeA, placeA, eA := call(rule, a)
	nodeB, placeB, eB := call(rule, b)
	number := func(at []int) func(int) int { return func(place int) int { return slices.Index(at, place) } }
	if eA == api.OK && eB == api.OK {
		if !alike(placed(nodeA, number(atA)), placed(nodeB, number(atB))) {
			t.Errorf("%s of %q and of %q: %s and %s", rule, a, b, shown(nodeA), shown(nodeB))
		}
		return false
	}
	if n := slices.Index(atA, placeA); eA != eB || n < 0 || atB[n] != placeB {
		t.Errorf("%s of %q and of %q: %d, %v and %d, %v", rule, a, b, placeA, eA, placeB, eB)
	}
	return true
}

// TestP704Texts: hand-written ones.
func TestP704Texts(t *testing.T) {
	for _, c := range []struct{ rule, a, b string }{
		{"mod", "F(M.N):>S:T", " F (M . N (* . *) )\n:> S :\tT (**)"}, {"mod", "struct end", "struct(**)end"}, {"sig", "S where type M.t=int", "S\rwhere\ntype M\t.\tt = (int)"}, {"sig", "sig end", "(*(**)*)sig\n\nend"},
		{"mod", "let in(M)end", "let in M end"}, {"sig", "M.S", "M .S"},
	} {
		a, _, eA := call(c.rule, c.a)
		b, _, eB := call(c.rule, c.b)
		if eA != api.OK || eB != api.OK || !alike(a, b) {
			t.Errorf("%q and %q: %s, %v and %s, %v", c.a, c.b, shown(a), eA, shown(b), eB)
		}
	}
	checkNode(t, "unit", "structure A:S=B type t=(* *)int", "[structure:0 A [: B S]] [type:16 t {int}]")
	checkNode(t, "unit", " structure A : S = B\n\ttype t = int ", "[structure:1 A [: B S]] [type:22 t {int}]")
	checkError(t, "mod", "struct val x=1", 14, api.ErrSyntax)
	checkError(t, "mod", "struct\n val x = 1 (* *) ", 24, api.ErrSyntax)
	checkError(t, "mod", "F(M)(N)", 4, api.ErrSyntax)
	checkError(t, "mod", "F (* *) ( M )\n( N )", 14, api.ErrSyntax)
	// A blank within a mark makes two of it.
	checkError(t, "mod", "M : > S", 4, api.ErrToken)
	checkNode(t, "mod", "M :> S", "[:> M S]")
}
