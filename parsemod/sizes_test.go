package parsemod_test

import (
	"math/rand"
	"reflect"
	"strings"
	"testing"

	"wafer/api"
	"wafer/parsemod"
	"wafer/tree"
)

// nest: a text that is laid so many times between two others.
func nest(n int, left, inner, right string) string {
	return strings.Repeat(left, n) + inner + strings.Repeat(right, n)
}

// depth: how deep a node that a text is stands in its deepest part.
func depth(node any) int {
	switch n := node.(type) {
	case []api.Dec:
		return tree.Depth(n)
	case api.Mod:
		return tree.Depth([]api.Dec{{Mods: []api.Mod{n}}}) - 1
	case api.Sig:
		return tree.Depth([]api.Dec{{Sigs: []api.Sig{n}}}) - 1
	}
	return tree.Depth([]api.Dec{node.(api.Dec)})
}

// checkDepth: is a text taken, if it is at most MaxDepth deep, and is it ErrDeep at 0, if it is deeper?
func checkDepth(t *testing.T, rule, s string, deep int) {
	t.Helper()
	if deep > api.MaxDepth {
		checkError(t, rule, s, 0, api.ErrDeep)
		return
	}
	if node, at, e := call(rule, s); at != 0 || e != api.OK || depth(node) != deep {
		t.Errorf("%s of %q, %d deep: %d deep, %d, %v", rule, brief(s), deep, depth(node), at, e)
	}
}

// TestP701Deep: a node at MaxDepth is taken, one deeper is not, by each way of nesting; a structure expression also in a declaration and in a unit, wherever that declaration stands.
func TestP701Deep(t *testing.T) {
	for _, c := range []struct {
		rule, left, inner, right string
		step                     int
	}{
		{"mod", "F(", "M", ")", 1}, {"mod", "", "M", " : S", 1}, {"mod", "", "M", " :> S", 1}, {"mod", "(", "M", " : S)", 1}, {"mod", "let in ", "M", " end", 1}, {"mod", "let structure A = ", "M", " in B end", 2},
		{"mod", "struct structure A = ", "M", " end", 2}, {"mod", "struct structure A = ", "struct end", " end", 2}, {"mod", "struct functor F(X : S) = ", "M", " end", 2}, {"mod", "struct structure A : S = ", "M", " end", 3}, {"mod", "struct functor F(X : S) :> T = ", "M", " end", 3},
		{"mod", "struct structure A = B val x = 1 structure A = ", "M", " type t = int end", 2}, {"mod", "let val x = 1 in F(", "M", ") end", 2},
		{"sig", "", "S", " where type t = int", 1}, {"sig", "sig structure A : ", "S", " end", 2}, {"sig", "sig structure A : ", "sig end", " end", 2}, {"sig", "sig structure A : ", "S", " end where type t = int", 3}, {"sig", "sig val x : int structure A : ", "S", " type t end", 2},
	} {
		last := (api.MaxDepth - 1) / c.step
		for n := last - 2; n <= last+1; n++ {
			s, deep := nest(n, c.left, c.inner, c.right), n*c.step+1
			checkDepth(t, c.rule, s, deep)
			begin := map[string]string{"mod": "structure A = ", "sig": "signature S = "}[c.rule]
			checkDepth(t, "mdec", begin+s, deep+1)
			checkDepth(t, "unit", begin+s, deep+1)
			checkDepth(t, "unit", "val x = 1 "+begin+s+" type t = int", deep+1)
		}
	}
}

// TestP701DeepParts: types, patterns, expressions, constructors and specifications count too.
func TestP701DeepParts(t *testing.T) {
	for deep := 94; deep <= 101; deep++ {
		ty, exp, sig := nest(deep-1, "a -> ", "a", ""), nest(deep-1, "fn x => ", "x", ""), nest(deep-1, "", "S", " where type t = int")
		for _, c := range []struct {
			rule, s string
			more    int
		}{
			{"mdec", "type t = " + ty, 1}, {"mdec", "data t = A of " + ty, 2}, {"mdec", "data t = A | B of " + ty + " | C", 2}, {"mdec", "val x : " + ty + " = 1", 1}, {"mdec", "val x = " + exp, 1}, {"mdec", "fun f x = " + exp, 1},
			{"sig", "sig val x : " + ty + " end", 2}, {"sig", "sig type t = " + ty + " end", 2}, {"sig", "sig data t = A of " + ty + " end", 3}, {"sig", "S where type t = " + ty, 1},
			{"mod", "M : " + sig, 1}, {"mod", "M :> " + sig, 1}, {"mod", "M : " + sig + " : T", 2}, {"mod", "struct type t = " + ty + " end", 2}, {"mod", "let val x = " + exp + " in M end", 2},
			{"mdec", "functor F(X : " + sig + ") = M", 1}, {"mdec", "functor F(X : S) : " + sig + " = M", 2}, {"mdec", "structure M :> " + sig + " = N", 2}, {"mdec", "signature T = " + sig, 1},
		} {
			checkDepth(t, c.rule, c.s, deep+c.more)
			if c.rule == "mdec" {
				checkDepth(t, "unit", c.s, deep+c.more)
				checkDepth(t, "unit", "type t = int "+c.s+" type u = int", deep+c.more)
			}
		}
	}
}

// TestP701DeepLast: that a node is too deep is told behind all other errors.
func TestP701DeepLast(t *testing.T) {
	deep := map[string]string{"mod": nest(120, "F(", "M", ")"), "sig": nest(120, "", "S", " where type t = int")}
	deep["mdec"] = "structure A = " + deep["mod"]
	deep["unit"] = "val x = 1 " + deep["mdec"]
	for _, rule := range faces() {
		s := deep[rule]
		checkError(t, rule, s, 0, api.ErrDeep)
		checkError(t, rule, s+" )", len(s)+1, api.ErrSyntax)
		checkError(t, rule, s+" #", len(s)+1, api.ErrToken)
	}
	checkError(t, "mod", deep["mod"]+" : "+pathOf(9, "S"), len(deep["mod"])+3, api.ErrBig)
	checkError(t, "sig", deep["sig"]+" where type t = "+pathOf(9, "t"), len(deep["sig"])+16, api.ErrBig)
	checkError(t, "unit", deep["unit"]+" type t = "+pathOf(9, "t"), len(deep["unit"])+10, api.ErrBig)
	checkError(t, "mod", deep["mod"]+" :", len(deep["mod"])+2, api.ErrSyntax)
}

// TestP701Parentheses: they leave no trace, however many there are, so that those around a small node are not too deep.
func TestP701Parentheses(t *testing.T) {
	for _, n := range []int{1, 2, 99, 100, 101, 400, (api.MaxTokens - 4) / 2} {
		checkNode(t, "mod", nest(n, "(", "M", ")"), "M")
		checkNode(t, "mdec", "structure A="+nest(n, "(", "M", ")"), "[structure:0 A M]")
		checkError(t, "mod", nest(n, "(", "M", ")")+")", 2*n+1, api.ErrSyntax)
		checkError(t, "mod", "("+nest(n, "(", "M", ")"), 2*n+2, api.ErrSyntax)
	}
	both, _, e := parsemod.Mod(nest(99, "(F(", "M", "))"))
	if bare, _, _ := parsemod.Mod(nest(99, "F(", "M", ")")); e != api.OK || !alike(both, bare) {
		t.Errorf("99 applications in parentheses: %v", e)
	}
	checkError(t, "mod", nest(100, "(F(", "M", "))"), 0, api.ErrDeep)
	checkError(t, "mod", strings.Repeat("(", api.MaxTokens), api.MaxTokens, api.ErrSyntax)
	checkError(t, "mod", strings.Repeat("(", api.MaxTokens+1), api.MaxTokens, api.ErrBig)
}

// TestP701Tokens: a text of MaxTokens tokens is read to its end.
func TestP701Tokens(t *testing.T) {
	most := strings.Repeat("type t = int\n", api.MaxTokens/4)
	l, at, e := parsemod.Unit(most)
	if at != 0 || e != api.OK || len(l) != api.MaxTokens/4 || l[len(l)-1].At != 13*(api.MaxTokens/4-1) {
		t.Errorf("%d tokens: %d, %v, %d declarations", api.MaxTokens, at, e, len(l))
	}
	checkError(t, "unit", most+"type", len(most), api.ErrBig)
	checkError(t, "unit", most+")", len(most), api.ErrBig)
	specs := strings.Repeat("type t val x : t ", 170)
	g, at, e := parsemod.Sig("sig type t " + specs + "end")
	if at != 0 || e != api.OK || len(g.Specs) != 341 || g.Specs[340].At != 11+17*169+7 {
		t.Errorf("specifications: %d, %v, %d of them", at, e, len(g.Specs))
	}
}

// TestP701ManyNodes: a token makes at most two nodes, so that no text has more than MaxNodes of them: one with nearly as many as can be is taken.
func TestP701ManyNodes(t *testing.T) {
	s := strings.Repeat("val x = f"+strings.Repeat(" x", api.MaxDepth-2)+" ", 10)
	l, at, e := parsemod.Unit(s)
	if n := tree.Nodes(l); at != 0 || e != api.OK || len(l) != 10 || n != 10*(2*api.MaxDepth-2) || n > api.MaxNodes {
		t.Errorf("%d nodes: %d, %v", n, at, e)
	}
	r := rand.New(rand.NewSource(4701))
	for range 500 {
		_, tokens := grow(r, "unit", 5)
		l, _, e := parsemod.Unit(strings.Join(tokens, " "))
		if n := tree.Nodes(l); e == api.OK && n > 2*len(tokens) {
			t.Errorf("%d nodes of %d tokens", n, len(tokens))
		}
	}
}

// TestP701Random: what is written by the grammar is read as it was, with the places of declarations and specifications.
func TestP701Random(t *testing.T) {
	r := rand.New(rand.NewSource(1701))
	read := 0
	for i := range 8000 {
		rule := faces()[i%4]
		node, tokens := grow(r, rule, 1+r.Intn(6))
		s, at := lay(r, tokens)
		if len(s) > api.MaxText || len(tokens) > api.MaxTokens {
			continue
		}
		read++
		want := placed(node, func(n int) int { return at[n] })
		got, place, e := call(rule, s)
		if place != 0 || e != api.OK || !alike(got, want) {
			t.Fatalf("%s of %q: %s, %d, %v, not %s", rule, s, brief(shown(got)), place, e, brief(shown(want)))
		}
		if _, e := tree.Right(within(got)); e != api.OK {
			t.Fatalf("%s of %q: not right: %v", rule, s, e)
		}
	}
	if read < 6000 {
		t.Errorf("only %d texts were read", read)
	}
}

// within: declarations that have a node.
func within(node any) []api.Dec {
	switch n := node.(type) {
	case []api.Dec:
		return n
	case api.Mod:
		return []api.Dec{{Kind: api.DStr, Name: "A", Mods: []api.Mod{n}}}
	case api.Sig:
		return []api.Dec{{Kind: api.DSig, Name: "A", Sigs: []api.Sig{n}}}
	}
	return []api.Dec{node.(api.Dec)}
}

// TestP701Memory: what is handed out is nobody else's: written into, it changes neither another answer nor another part of its own.
func TestP701Memory(t *testing.T) {
	r := rand.New(rand.NewSource(5701))
	for i := range 400 {
		rule := faces()[i%4]
		_, tokens := grow(r, rule, 1+r.Intn(5))
		s := strings.Join(tokens, " ")
		one, _, e := call(rule, s)
		if e != api.OK {
			continue
		}
		before := shown(one)
		two, _, _ := call(rule, s)
		if shared := lists(reflect.ValueOf(two), map[uintptr]bool{}); shared {
			t.Errorf("%s of %q: two of its lists share memory", rule, s)
		}
		spill(reflect.ValueOf(two))
		three, _, _ := call(rule, s)
		if shown(one) != before || shown(three) != before {
			t.Errorf("%s of %q: %s, then %s", rule, s, shown(one), shown(three))
		}
	}
}

// lists: do two lists of a node, spare room too, share memory?
func lists(v reflect.Value, seen map[uintptr]bool) bool {
	shared := false
	switch v.Kind() {
	case reflect.Struct:
		for i := range v.NumField() {
			shared = lists(v.Field(i), seen) || shared
		}
	case reflect.Slice:
		full := v.Slice(0, v.Cap())
		for i := range full.Len() {
			at := full.Index(i).Addr().Pointer()
			shared = shared || seen[at]
			seen[at] = true
		}
		for i := range v.Len() {
			shared = lists(v.Index(i), seen) || shared
		}
	}
	return shared
}

// spill: writes into all lists of a node, from the inside out, and into their spare room.
func spill(v reflect.Value) {
	switch v.Kind() {
	case reflect.Struct:
		for i := range v.NumField() {
			spill(v.Field(i))
		}
	case reflect.Slice:
		for i := range v.Len() {
			spill(v.Index(i))
		}
		full := v.Slice(0, v.Cap())
		for i := range full.Len() {
			full.Index(i).SetZero()
		}
	}
}
