package parsemod_test

import (
	"fmt"
	"math/rand"
	"reflect"
	"slices"
	"strings"
	"testing"

	"wafer/api"
	"wafer/names"
	"wafer/parsemod"
)

// checkHeads: are these the names, with a blank between any two?
func checkHeads(t *testing.T, what string, l []api.Dec, want string) {
	t.Helper()
	if got := strings.Join(parsemod.Heads(l), " "); got != want {
		t.Errorf("Heads of %s: %q, not %q", brief(what), got, want)
	}
}

// TestP702Texts: every sort of node that has a path, with paths of one name and of several.
func TestP702Texts(t *testing.T) {
	for _, c := range []struct{ s, want string }{
		// The chapter's example, and no declaration.
		{"val x = M.y val z = x structure A = B structure C = F(A)", "A B F M"}, {"", ""}, {"(* M.x *)", ""},
		// Of one name.
		{"val x = y", ""}, {"val x = A", ""}, {"val x = fn A => 1", ""}, {"val x = fn A y => 1", ""}, {"type t = u", ""}, {"type t = int", ""}, {"type t = 'a", ""}, {"data t = A of u", ""},
		{"structure A = M", "M"}, {"structure A = F(struct end)", "F"}, {"signature A = S", "S"}, {"structure A = struct end : S", "S"}, {"structure A = struct end :> S", "S"}, {"signature A = sig end where type t = int", ""},
		// Of two and more: the first one alone.
		{"val x = M.y", "M"}, {"val x = M.N.y", "M"}, {"val x = A.B.C.D.E.F.G.y", "A"}, {"val x = M.A", "M"}, {"val x = M.N.A", "M"}, {"val x = fn M.A => 1", "M"}, {"val x = fn M.A N.B => 1", "M N"}, {"type t = M.t", "M"}, {"type t = M.N.t", "M"},
		{"structure A = M.N", "M"}, {"structure A = M.N.O", "M"}, {"structure A = M.F(struct end)", "M"}, {"structure A = M.N.F(O.P)", "M O"}, {"signature A = M.S", "M"}, {"signature A = sig end where type M.t = int", "M"}, {"signature A = S where type M.N.t = L.u", "L M S"},
		// Names that are bound are no paths.
		{"structure A = struct end", ""}, {"signature A = sig end", ""}, {"functor F(X : sig end) = struct end", ""}, {"data t = A | B of int", ""}, {"fun f x y = x", ""}, {"signature A = sig structure M : sig end end", ""},
		// Names that the declarations have themselves count as others do.
		{"structure A = struct end structure B = A", "A"}, {"functor F(X : S) = X", "S X"}, {"functor F(X : S) : T = F(X.Y)", "F S T X"}, {"signature S = S", "S"}, {"structure A = struct val x = A.x end", "A"}, {"structure A = let structure B = C in B end", "B C"},
		// Each once, in the order of texts, which is by bytes.
		{"val x = M.x val y = M.y", "M"}, {"val x = (Z.x, (B.x, (A1.x, (A.x, (A_.x, (Aa.x, B.y))))))", "A A1 A_ Aa B Z"}, {"structure A = M : M :> M", "M"}, {"val x = Za.x val y = ZA.x val z = Z9.x", "Z9 ZA Za"},
		{"val x = M.x structure A = M type t = M.t signature S = M", "M"},
	} {
		l, _, e := parsemod.Unit(c.s)
		if e != api.OK {
			t.Fatalf("%q: %v", c.s, e)
		}
		checkHeads(t, c.s, l, c.want)
	}
}

// TestP702Anywhere: a path in each part that a node can have.
func TestP702Anywhere(t *testing.T) {
	exps := []string{
		"fn x => %s", "f (%s)", "(%s) x", "(%s, 1)", "(1, %s)", "let in %s end", "let val y = %s in 1 end", "let fun f x = %s in 1 end", "let val y = 1 val z = %s in 1 end", "if %s then 1 else 2", "if a then %s else 2", "if a then 1 else %s",
		"case %s of y => 1 end", "case x of y => %s end", "case x of y => 1 | z => %s end", "(%s) + 1", "1 * (%s)", "(%s : int)",
	}
	pats := []string{"fn %s => 1", "fn (%s, x) => 1", "fn (x, %s) => 1", "fn A (%s) => 1", "case x of %s => 1 end", "case x of y => 1 | (%s) => 2 end"}
	tys := []string{"val x : %s = 1", "fun f x : %s = 1", "type t = %s", "type t = %s -> int", "type t = int -> %s", "type t = %s * int", "type t = int * %s", "data t = A of %s", "data t = A | B of int | C of %s", "val x = (1 : %s)", "val x = let val y : %s = 1 in y end",
		"signature A = sig val x : %s end", "signature A = sig type t = %s end", "signature A = sig data t = A | B of %s end", "signature A = sig type t end where type t = %s", "signature A = sig type t type u = %s end"}
	mods := []string{"structure A = %s", "functor A(A : sig end) = %s", "structure A = struct structure B = %s end", "structure A = struct type t = int structure B = %s end", "structure A = let structure B = %s in struct end end", "structure A = let in %s end", "structure A = %s : sig end", "structure A = %s :> sig end", "structure A : sig end = %s"}
	sigs := []string{"signature A = %s", "functor A(A : %s) = struct end", "functor A(A : sig end) : %s = struct end", "structure A : %s = struct end", "structure A :> %s = struct end", "structure A = struct end : %s", "structure A = struct end :> sig end : %s", "signature A = sig structure B : %s end", "signature A = %s where type t = int", "signature A = sig type t structure B : sig structure C : %s end end"}
	check := func(form string, all map[string]string) {
		t.Helper()
		for inner, want := range all {
			s := strings.Replace(form, "%s", inner, 1)
			l, _, e := parsemod.Unit(s)
			if e != api.OK {
				t.Fatalf("%q: %v", s, e)
			}
			checkHeads(t, s, l, want)
		}
	}
	for _, f := range exps {
		check("val x = "+f, map[string]string{"x": "", "K": "", "K.x": "K", "K.L": "K", "K.L.x": "K", "K.L.M": "K"})
		check("structure A = struct val x = "+f+" end", map[string]string{"x": "", "K": "", "K.x": "K", "K.L": "K"})
	}
	for _, f := range pats {
		check("val x = "+f, map[string]string{"x": "", "K": "", "K.L": "K", "K.L.M": "K"})
	}
	for _, f := range tys {
		check(f, map[string]string{"t": "", "int": "", "'a": "", "K.t": "K", "K.L.t": "K"})
	}
	for _, f := range mods {
		check(f, map[string]string{"K": "K", "K.L": "K", "K.L.M": "K", "K(struct end)": "K", "K.L(struct end)": "K", "K(L)": "K L", "L(K.M)": "K L", "struct end": ""})
	}
	for _, f := range sigs {
		check(f, map[string]string{"K": "K", "K.L": "K", "K.L.M": "K", "sig end": "", "sig end where type t = int": "", "sig end where type K.t = int": "K"})
	}
}

// heads: the chapter's words over any plain data: a field Path, the kind of what has it, and names alone.
func heads(l []api.Dec) []string {
	found := map[string]bool{}
	eachStruct(reflect.ValueOf(l), reflect.Value{}, func(v, _ reflect.Value) {
		f := v.FieldByName("Path")
		if !f.IsValid() || f.Len() == 0 || !names.Upper(f.Index(0).String()) {
			return
		}
		alone := false
		switch kind := int(v.FieldByName("Kind").Int()); v.Interface().(type) {
		case api.Mod:
			alone = kind == api.MPath || kind == api.MApp
		case api.Sig:
			alone = kind == api.SPath
		}
		if f.Len() > 1 || alone {
			found[f.Index(0).String()] = true
		}
	})
	var out []string
	for name := range found {
		out = append(out, name)
	}
	slices.Sort(out)
	return out
}

// TestP702Random: of random declarations.
func TestP702Random(t *testing.T) {
	r := rand.New(rand.NewSource(702))
	for range 5000 {
		node, _ := grow(r, "unit", 1+r.Intn(6))
		l := node.([]api.Dec)
		checkHeads(t, shown(l), l, strings.Join(heads(l), " "))
	}
}

// TestP702Wrong: declarations that are not right: no call panics, whatever paths are; a name that is no high one is not told.
func TestP702Wrong(t *testing.T) {
	long := strings.Repeat("A", api.MaxName)
	for _, c := range []struct {
		path []string
		one  string
		many string
	}{
		{nil, "", ""}, {[]string{""}, "", ""}, {[]string{"", "x"}, "", ""}, {[]string{"a"}, "", ""}, {[]string{"a", "x"}, "", ""}, {[]string{"a", "A"}, "", ""}, {[]string{"_A", "x"}, "", ""}, {[]string{"9", "x"}, "", ""}, {[]string{"A.B", "x"}, "", ""},
		{[]string{"val", "x"}, "", ""}, {[]string{"A"}, "A", ""}, {[]string{"A", "x"}, "A", "A"}, {[]string{long}, long, ""}, {[]string{long, "x"}, long, long}, {[]string{long + "A"}, "", ""}, {[]string{long + "A", "x"}, "", ""}, {[]string{"\xc3\x84", "x"}, "", ""},
	} {
		mod := func(kind int) []api.Dec { return []api.Dec{{Mods: []api.Mod{{Kind: kind, Path: c.path}}}} }
		sig := func(kind int) []api.Dec { return []api.Dec{{Sigs: []api.Sig{{Kind: kind, Path: c.path}}}} }
		for kind := -1; kind <= 20; kind++ {
			what := fmt.Sprint("kind ", kind, " with ", c.path)
			want := c.many
			if kind == api.MPath || kind == api.MApp {
				want = c.one
			}
			checkHeads(t, "a Mod of "+what, mod(kind), want)
			want = c.many
			if kind == api.SPath {
				want = c.one
			}
			checkHeads(t, "a Sig of "+what, sig(kind), want)
			checkHeads(t, "an Exp of "+what, []api.Dec{{Exps: []api.Exp{{Kind: kind, Path: c.path}}}}, c.many)
			checkHeads(t, "a Pat of "+what, []api.Dec{{Exps: []api.Exp{{Pats: []api.Pat{{Kind: kind, Path: c.path}}}}}}, c.many)
			checkHeads(t, "a Ty of "+what, []api.Dec{{Tys: []api.Ty{{Kind: kind, Path: c.path}}}}, c.many)
		}
	}
	checkHeads(t, "no list", nil, "")
	checkHeads(t, "an empty list", []api.Dec{}, "")
	checkHeads(t, "zero declarations", make([]api.Dec, 3), "")
}

// TestP702Deep: nodes nested as deep as the document lets them be.
func TestP702Deep(t *testing.T) {
	m, s, ty := api.Mod{Kind: api.MPath, Path: []string{"M"}}, api.Sig{Kind: api.SPath, Path: []string{"S"}}, api.Ty{Kind: api.YCon, Path: []string{"T", "t"}}
	for range 1<<16 - 2 {
		m = api.Mod{Kind: api.MApp, Path: []string{"F"}, Mods: []api.Mod{m}}
		s = api.Sig{Kind: api.SWhere, Sigs: []api.Sig{s}}
		ty = api.Ty{Kind: api.YFn, Kids: []api.Ty{ty}}
	}
	checkHeads(t, "deep nodes", []api.Dec{{Mods: []api.Mod{m}}, {Sigs: []api.Sig{s}}, {Tys: []api.Ty{ty}}}, "F M S T")
}

// TestP702Memory: what is handed in is not changed, and what is handed out is the caller's alone.
func TestP702Memory(t *testing.T) {
	l, _, _ := parsemod.Unit("val x = M.y val z = N.y structure A = B : S structure C = F(A) type t = M.t")
	before := fmt.Sprintf("%+v", l)
	got := parsemod.Heads(l)
	for i := range got[:cap(got)] {
		got[:cap(got)][i] = "changed"
	}
	if after := fmt.Sprintf("%+v", l); after != before {
		t.Errorf("%s, then %s", before, after)
	}
	checkHeads(t, "the same again", l, "A B F M N S")
}
