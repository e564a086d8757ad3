package print_test

import (
	"math"
	"math/rand"
	"slices"
	"strings"
	"testing"

	"wafer/api"
	"wafer/lex"
	"wafer/parsecore"
	"wafer/print"
	"wafer/tree"
)

// brief: a text that is not too long to be told.
func brief(s string) string {
	if len(s) > 400 {
		return s[:400] + ".."
	}
	return s
}

// check: is that a node's text, whether it has one or is too long?
func check(t *testing.T, s sample) {
	t.Helper()
	want, wantError := s.text, api.OK
	if len(want) > api.MaxText {
		want, wantError = "", api.ErrBig
	}
	if got, e := text(s.node); got != want || e != wantError {
		t.Errorf("%T: %q, %v, not %q, %v", s.node, brief(got), e, brief(want), wantError)
	}
}

func low(s string) api.Exp { return api.Exp{Kind: api.EVar, Path: path(s)} }

func number(n int64) api.Exp { return api.Exp{Kind: api.EInt, N: n} }

func two(kind, op int, a, b api.Exp) api.Exp {
	return api.Exp{Kind: kind, Op: op, Kids: []api.Exp{a, b}}
}

func apply(a, b api.Exp) api.Exp { return two(api.EApp, 0, a, b) }

func fn(x string, body api.Exp) api.Exp {
	return api.Exp{Kind: api.EFn, Pats: []api.Pat{{Kind: api.PVar, Name: x}}, Kids: []api.Exp{body}}
}

func tyCon(s string) api.Ty { return api.Ty{Kind: api.YCon, Path: path(s)} }

func tyTwo(kind int, a, b api.Ty) api.Ty { return api.Ty{Kind: kind, Kids: []api.Ty{a, b}} }

func patCon(s string, kids ...api.Pat) api.Pat {
	return api.Pat{Kind: api.PCon, Path: path(s), Kids: kids}
}

func sigPath(s string) api.Sig { return api.Sig{Kind: api.SPath, Path: path(s)} }

func where(s api.Sig, p string, t api.Ty) api.Sig {
	return api.Sig{Kind: api.SWhere, Sigs: []api.Sig{s}, Path: path(p), Tys: []api.Ty{t}}
}

func modPath(s string) api.Mod { return api.Mod{Kind: api.MPath, Path: path(s)} }

func sealed(kind int, m api.Mod, s api.Sig) api.Mod {
	return api.Mod{Kind: kind, Mods: []api.Mod{m}, Sigs: []api.Sig{s}}
}

func functorOf(s string, m api.Mod) api.Mod {
	return api.Mod{Kind: api.MApp, Path: path(s), Mods: []api.Mod{m}}
}

func val(x string, e api.Exp) api.Dec {
	return api.Dec{Kind: api.DVal, Name: x, Exps: []api.Exp{e}}
}

// TestF61Examples: the chapter's.
func TestF61Examples(t *testing.T) {
	x, y, f, g := low("x"), low("y"), low("f"), low("g")
	one, two2, three := number(1), number(2), number(3)
	pair := api.Pat{Kind: api.PPair, Kids: []api.Pat{{Kind: api.PVar, Name: "x"}, {Kind: api.PAny}}}
	sides := []api.Ty{
		tyTwo(api.YFn, tyCon("int"), tyCon("bool")),
		tyTwo(api.YPair, api.Ty{Kind: api.YVar, Name: "a"}, tyTwo(api.YPair, tyCon("int"), tyCon("int"))),
	}
	hidden := sealed(api.MSeal, api.Mod{Kind: api.MStruct}, where(sigPath("S"), "t", tyCon("int")))
	for _, s := range []sample{
		{apply(f, apply(g, x)), 0, "f (g x)"}, {apply(apply(f, g), x), 0, "f g x"},
		{two(api.EBin, api.OMul, two(api.EBin, api.OAdd, one, two2), three), 0, "(1 + 2) * 3"},
		{two(api.EBin, api.OSub, one, two(api.EBin, api.OSub, two2, three)), 0, "1 - (2 - 3)"},
		{apply(fn("x", x), one), 0, "(fn x => x) 1"}, {fn("x", fn("y", x)), 0, "fn x => fn y => x"}, {fn("x", y), 0, "fn x => y"},
		{patCon("M.Cons", pair), 0, "M.Cons (x, _)"}, {patCon("A", patCon("B", api.Pat{Kind: api.PVar, Name: "y"})), 0, "A (B y)"},
		{tyTwo(api.YFn, sides[0], sides[1]), 0, "(int -> bool) -> 'a * (int * int)"},
		{api.Dec{Kind: api.DStr, Name: "M", Mods: []api.Mod{hidden}}, 0, "structure M = struct end :> S where type t = int"},
	} {
		check(t, s)
	}
}

// TestF61Operators: each operator as the first and as the second part of each.
func TestF61Operators(t *testing.T) {
	ops := []struct {
		op          int
		sign        string
		first, next string // the operators that stand there without parentheses
	}{
		{api.OAdd, "+", "+-*/", "*/"}, {api.OSub, "-", "+-*/", "*/"}, {api.OMul, "*", "*/", ""}, {api.ODiv, "/", "*/", ""},
		{api.OEq, "=", "+-*/", "+-*/"}, {api.OLt, "<", "+-*/", "+-*/"},
	}
	bare := func(s string, in bool) string {
		if in {
			return s
		}
		return "(" + s + ")"
	}
	for _, outer := range ops {
		for _, inner := range ops {
			node, s := two(api.EBin, inner.op, low("a"), low("b")), "a "+inner.sign+" b"
			first := bare(s, strings.Contains(outer.first, inner.sign)) + " " + outer.sign + " c"
			second := "c " + outer.sign + " " + bare(s, strings.Contains(outer.next, inner.sign))
			check(t, sample{two(api.EBin, outer.op, node, low("c")), 0, first})
			check(t, sample{two(api.EBin, outer.op, low("c"), node), 0, second})
		}
		s := "a " + outer.sign + " b"
		node := two(api.EBin, outer.op, low("a"), low("b"))
		check(t, sample{apply(node, low("c")), 0, "(" + s + ") c"})
		check(t, sample{apply(low("c"), node), 0, "c (" + s + ")"})
		check(t, sample{two(api.EBin, outer.op, apply(low("f"), low("x")), apply(low("g"), low("y"))), 0, "f x " + outer.sign + " g y"})
		check(t, sample{two(api.EBin, outer.op, fn("x", low("x")), fn("y", low("y"))), 0, "(fn x => x) " + outer.sign + " (fn y => y)"})
	}
}

// TestF61Modules: structures and signatures within one another, which have no parentheses of their own.
func TestF61Modules(t *testing.T) {
	m, s := modPath("M"), sigPath("S")
	empty := api.Mod{Kind: api.MStruct}
	both := where(where(s, "t", tyCon("int")), "M.u", tyTwo(api.YFn, tyCon("int"), tyCon("bool")))
	decs := []api.Dec{val("x", number(1)), {Kind: api.DType, Name: "t", Tys: []api.Ty{tyCon("int")}}}
	for _, c := range []sample{
		{sealed(api.MAsc, sealed(api.MSeal, m, s), sigPath("T")), 0, "M :> S : T"},
		{sealed(api.MSeal, sealed(api.MAsc, m, s), sigPath("T")), 0, "M : S :> T"},
		{sealed(api.MAsc, sealed(api.MAsc, m, s), sigPath("T")), 0, "M : S : T"},
		{functorOf("F", sealed(api.MSeal, m, s)), 0, "F(M :> S)"},
		{functorOf("F", functorOf("M.G", empty)), 0, "F(M.G(struct end))"},
		{sealed(api.MAsc, functorOf("F", m), s), 0, "F(M) : S"},
		{both, 0, "S where type t = int where type M.u = int -> bool"},
		{sealed(api.MSeal, m, both), 0, "M :> S where type t = int where type M.u = int -> bool"},
		{api.Mod{Kind: api.MStruct, Decs: decs}, 0, "struct val x = 1 type t = int end"},
		{api.Mod{Kind: api.MLet, Decs: decs, Mods: []api.Mod{m}}, 0, "let val x = 1 type t = int in M end"},
		{api.Mod{Kind: api.MLet, Mods: []api.Mod{sealed(api.MAsc, m, s)}}, 0, "let in M : S end"},
		{api.Sig{Kind: api.SSig}, 0, "sig end"},
		{api.Sig{Kind: api.SSig, Specs: []api.Spec{{Kind: api.CType, Name: "t"}, {Kind: api.CStr, Name: "M", Sigs: []api.Sig{both}}}}, 0,
			"sig type t structure M : S where type t = int where type M.u = int -> bool end"},
	} {
		check(t, c)
	}
}

// back: does parsecore read a text of its sorts as the node that it was made of?
func back(node any, s string) bool {
	if _, _, e := lex.Lex(s); e == api.ErrBig {
		return true // more tokens than there may be
	}
	switch n := node.(type) {
	case api.Ty:
		got, _, e := parsecore.Ty(s)
		return e == api.OK && tree.SameTy(got, n)
	case api.Pat:
		got, _, e := parsecore.Pat(s)
		return e == api.OK && tree.SamePat(got, n)
	case api.Exp:
		got, _, e := parsecore.Exp(s)
		return e == api.OK && tree.SameExp(got, n)
	}
	return true
}

// TestF61Pairs: every kind at level 1, and as each part of every kind that has parts; P503: what parsecore can read is read back.
func TestF61Pairs(t *testing.T) {
	l := pairs()
	for _, s := range l {
		check(t, s)
		if !back(s.node, s.text) {
			t.Errorf("%q is not read back", brief(s.text))
		}
	}
	if len(l) < 1000 {
		t.Errorf("only %d nodes", len(l))
	}
}

// TestF61Random: random nodes, many levels deep; P503 of them.
func TestF61Random(t *testing.T) {
	r := rand.New(rand.NewSource(61))
	long, most := 0, 0
	for i := range 6000 {
		sorts := []string{"ty", "pat", "exp", "dec", "mod", "sig", "spec", "con"}
		s := grow(r, sorts[i%len(sorts)], 2+r.Intn(8))
		check(t, s)
		if len(s.text) > api.MaxText {
			long++
			continue
		}
		most = max(most, len(s.text))
		if !back(s.node, s.text) {
			t.Errorf("%q is not read back", brief(s.text))
		}
	}
	if long == 0 || most < api.MaxText/2 {
		t.Errorf("%d texts that are too long, and the longest other one has %d bytes", long, most)
	}
}

// TestF61Numbers: numbers, names and paths at their edges.
func TestF61Numbers(t *testing.T) {
	name := strings.Repeat("n", api.MaxName)
	high := strings.Repeat("N", api.MaxName)
	p := strings.Repeat(high+".", api.MaxPath-1)
	for _, s := range []sample{
		{number(0), 0, "0"}, {number(math.MaxInt64), 0, "9223372036854775807"},
		{api.Pat{Kind: api.PInt}, 0, "0"}, {api.Pat{Kind: api.PInt, N: math.MaxInt64}, 0, "9223372036854775807"},
		{tyCon("int"), 0, "int"}, {tyCon("bool"), 0, "bool"}, {tyCon("unit"), 0, "unit"}, {tyCon("units"), 0, "units"},
		{api.Ty{Kind: api.YVar, Name: name[1:]}, 0, "'" + name[1:]}, {api.Ty{Kind: api.YVar, Name: "end"}, 0, "'end"},
		{tyCon(name), 0, name}, {tyCon(p + name), 0, p + name}, {low(p + name), 0, p + name},
		{api.Exp{Kind: api.ECon, Path: path(p + high)}, 0, p + high}, {patCon(p + high), 0, p + high},
		{modPath(p + high), 0, p + high}, {sigPath(p + high), 0, p + high}, {functorOf(p+high, modPath("M")), 0, p + high + "(M)"},
		{where(sigPath("S"), p+name, tyCon("int")), 0, "S where type " + p + name + " = int"},
	} {
		check(t, s)
	}
}

// TestF61Unit: a byte 10 behind each declaration.
func TestF61Unit(t *testing.T) {
	check(t, sample{[]api.Dec(nil), 0, ""})
	check(t, sample{[]api.Dec{}, 0, ""})
	var all []api.Dec
	var texts string
	for _, f := range formsOf("dec") {
		s := f.fill(atoms(f, 0))
		check(t, sample{[]api.Dec{s.node.(api.Dec)}, 0, s.text + "\n"})
		all = append(all, s.node.(api.Dec))
		texts += s.text + "\n"
		check(t, sample{slices.Clone(all), 0, texts})
	}
}

// TestF61Lists: lists that are empty are like ones that are nil.
func TestF61Lists(t *testing.T) {
	for _, s := range []sample{
		{api.Ty{Kind: api.YVar, Name: "a", Path: []string{}, Kids: []api.Ty{}}, 0, "'a"},
		{api.Pat{Kind: api.PCon, Path: path("A"), Kids: []api.Pat{}}, 0, "A"},
		{api.Exp{Kind: api.ELet, Path: []string{}, Pats: []api.Pat{}, Decs: []api.Dec{}, Tys: []api.Ty{}, Kids: []api.Exp{number(1)}}, 0, "let in 1 end"},
		{api.Mod{Kind: api.MStruct, Path: []string{}, Decs: []api.Dec{}, Mods: []api.Mod{}, Sigs: []api.Sig{}}, 0, "struct end"},
		{api.Sig{Kind: api.SSig, Path: []string{}, Specs: []api.Spec{}, Sigs: []api.Sig{}, Tys: []api.Ty{}}, 0, "sig end"},
		{api.Dec{Kind: api.DVal, Name: "x", Params: []string{}, Tys: []api.Ty{}, Exps: []api.Exp{number(1)}, Cons: []api.Con{}}, 0, "val x = 1"},
	} {
		check(t, s)
	}
}

// TestP602Parts: the text of a node has those of its parts in it, in order.
func TestP602Parts(t *testing.T) {
	r := rand.New(rand.NewSource(602))
	for range 200 {
		for _, f := range allForms() {
			sorts, _ := f.holes()
			var parts []sample
			for _, sort := range sorts {
				parts = append(parts, grow(r, sort, 1+r.Intn(3)))
			}
			whole, e := text(f.fill(parts).node)
			if e == api.ErrBig {
				continue
			}
			rest := whole
			for _, part := range parts {
				s, e := text(part.node)
				at := strings.Index(rest, s)
				if e != api.OK || at < 0 {
					t.Fatalf("%q, %v, is not in order in %q", brief(s), e, brief(whole))
				}
				rest = rest[at+len(s):]
			}
		}
	}
}

// TestP602Unit: a unit's text is those of its declarations.
func TestP602Unit(t *testing.T) {
	r := rand.New(rand.NewSource(6020))
	for range 500 {
		var l []api.Dec
		var want string
		for range r.Intn(5) {
			s := grow(r, "dec", 1+r.Intn(3))
			l = append(l, s.node.(api.Dec))
			got, e := print.Dec(l[len(l)-1])
			if e != api.OK {
				t.Fatalf("%q: %v", brief(s.text), e)
			}
			want += got + "\n"
		}
		check(t, sample{l, 0, want})
	}
}
