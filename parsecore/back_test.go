package parsecore_test

import (
	"math"
	"math/rand"
	"reflect"
	"strings"
	"testing"

	"wafer/api"
	"wafer/lex"
	"wafer/names"
	"wafer/print"
	"wafer/tree"
)

// printed: print's text of a node of one of the three rules.
func printed(node any) (string, api.Errno) {
	switch n := node.(type) {
	case api.Ty:
		return print.Ty(n)
	case api.Pat:
		return print.Pat(n)
	}
	return print.Exp(node.(api.Exp))
}

// same: are they the same by tree, which asks for no places?
func same(a, b any) bool {
	switch n := a.(type) {
	case api.Ty:
		return tree.SameTy(n, b.(api.Ty))
	case api.Pat:
		return tree.SamePat(n, b.(api.Pat))
	}
	return tree.SameExp(a.(api.Exp), b.(api.Exp))
}

// checkBack: is a node read back out of its text? Its text, and how many tokens it has: as many as there may be, and one more, if there are more.
func checkBack(t *testing.T, rule string, node any) (string, int) {
	t.Helper()
	s, e := printed(node)
	if e != api.OK {
		t.Fatalf("%s %s has no text: %v", rule, brief(shown(node)), e)
	}
	tokens, at, e := lex.Lex(s)
	got, gotAt, gotError := call(rule, s)
	if e == api.ErrBig {
		checkError(t, rule, s, at, api.ErrBig)
		return s, api.MaxTokens + 1
	}
	if e != api.OK || gotAt != 0 || gotError != api.OK || !same(node, got) {
		t.Errorf("%s of %q: %s, %d, %v, not %s", rule, brief(s), brief(shown(got)), gotAt, gotError, brief(shown(node)))
	}
	return s, len(tokens)
}

// TestP503Random: random nodes, with places that their declarations do not have in the text.
func TestP503Random(t *testing.T) {
	r := rand.New(rand.NewSource(503))
	longest := 0
	for i := range 30000 {
		rule := []string{"ty", "pat", "exp"}[i%3]
		grown, _ := grow(r, rule, 1+r.Intn(10))
		node := reflect.ValueOf(grown).Elem().Interface()
		if _, e := printed(node); e == api.ErrBig {
			continue
		}
		_, n := checkBack(t, rule, node)
		longest = max(longest, n)
	}
	if longest < api.MaxTokens/2 {
		t.Errorf("at most %d tokens", longest)
	}
}

// TestP503Twice: what is read back is printed as it was.
func TestP503Twice(t *testing.T) {
	r := rand.New(rand.NewSource(5030))
	for i := range 3000 {
		rule := []string{"ty", "pat", "exp"}[i%3]
		_, tokens := grow(r, rule, 1+r.Intn(4))
		read, _, e := call(rule, strings.Join(tokens, " "))
		if e != api.OK {
			t.Fatalf("%q: %v", brief(strings.Join(tokens, " ")), e)
		}
		s, _ := checkBack(t, rule, read)
		again, _, _ := call(rule, s)
		if s2, e := printed(again); s2 != s || e != api.OK {
			t.Errorf("%q, and then %q, %v", brief(s), brief(s2), e)
		}
	}
}

// balanced: so many leaves in pairs, which are not deep.
func balanced(n int) api.Exp {
	if n == 1 {
		return api.Exp{Kind: api.EInt, N: 1}
	}
	return api.Exp{Kind: api.EPair, Kids: []api.Exp{balanced(n / 2), balanced(n - n/2)}}
}

// TestP503Tokens: a text of MaxTokens tokens is read back, one of more is not.
func TestP503Tokens(t *testing.T) {
	// A pair has three tokens of its own: with n leaves there are 4n - 3.
	most := balanced(256)
	for extra := range 5 {
		e := most
		// Each application makes one token more.
		for range extra {
			e = api.Exp{Kind: api.EApp, Kids: []api.Exp{e, {Kind: api.EInt, N: 1}}}
		}
		if _, n := checkBack(t, "exp", e); n != api.MaxTokens-3+extra {
			t.Errorf("%d tokens, not %d", n, api.MaxTokens-3+extra)
		}
	}
}

// TestP503Deep: nodes at MaxDepth.
func TestP503Deep(t *testing.T) {
	ty, p, e := api.Ty{Kind: api.YVar, Name: "a"}, api.Pat{Kind: api.PAny}, api.Exp{Kind: api.EUnit}
	left := e
	for range api.MaxDepth - 1 {
		ty = api.Ty{Kind: api.YFn, Kids: []api.Ty{ty, {Kind: api.YVar, Name: "a"}}}
		p = api.Pat{Kind: api.PCon, Path: []string{"A"}, Kids: []api.Pat{p}}
		e = api.Exp{Kind: api.EApp, Kids: []api.Exp{{Kind: api.EUnit}, e}}
		left = api.Exp{Kind: api.EBin, Op: api.OLt, Kids: []api.Exp{left, {Kind: api.EUnit}}}
	}
	checkBack(t, "ty", ty)
	checkBack(t, "pat", p)
	checkBack(t, "exp", e)
	checkBack(t, "exp", left)
}

// TestP503Edges: numbers, names and paths at their edges, and a text of MaxText bytes.
func TestP503Edges(t *testing.T) {
	long := strings.Repeat("n", api.MaxName)
	var full []string
	for range api.MaxPath - 1 {
		full = append(full, strings.Repeat("N", api.MaxName))
	}
	low, high := append(full[:len(full):len(full)], long), append(full[:len(full):len(full)], strings.ToUpper(long))
	for _, word := range names.Words() {
		checkBack(t, "ty", api.Ty{Kind: api.YVar, Name: word})
	}
	for _, s := range []string{"int", "bool", "unit", "t", long} {
		checkBack(t, "ty", api.Ty{Kind: api.YCon, Path: []string{s}})
	}
	checkBack(t, "ty", api.Ty{Kind: api.YVar, Name: long[1:]})
	checkBack(t, "ty", api.Ty{Kind: api.YCon, Path: low})
	checkBack(t, "exp", api.Exp{Kind: api.EVar, Path: low})
	checkBack(t, "exp", api.Exp{Kind: api.ECon, Path: high})
	checkBack(t, "pat", api.Pat{Kind: api.PCon, Path: high})
	for _, n := range []int64{0, 1, 9, 10, math.MaxInt32, math.MaxInt64 - 1, math.MaxInt64} {
		checkBack(t, "exp", api.Exp{Kind: api.EInt, N: n})
		checkBack(t, "pat", api.Pat{Kind: api.PCon, Path: []string{"A"}, Kids: []api.Pat{{Kind: api.PInt, N: n}}})
	}
	// 264 bytes each with the blank ahead, but for the first one: 15 of them and the rest.
	e := api.Exp{Kind: api.EVar, Path: low}
	for range 14 {
		e = api.Exp{Kind: api.EApp, Kids: []api.Exp{e, {Kind: api.EVar, Path: low}}}
	}
	rest := api.Exp{Kind: api.EVar, Path: append(full[:4:4], strings.Repeat("n", 4))}
	e = api.Exp{Kind: api.EApp, Kids: []api.Exp{e, rest}}
	if s, _ := checkBack(t, "exp", e); len(s) != api.MaxText {
		t.Errorf("%d bytes, not MaxText", len(s))
	}
}
