package print_test

import (
	"strings"
	"testing"

	"wafer/api"
	"wafer/print"
	"wafer/tree"
)

// pathOf: a path of so many bytes, 1 to 200, with a last name that begins with a letter.
func pathOf(n int, letter string) []string {
	var p []string
	for n > api.MaxName {
		k := min(api.MaxName, n-2)
		p = append(p, strings.Repeat("M", k))
		n -= k + 1
	}
	return append(p, strings.Repeat(letter, n))
}

// tyOf: a type whose text has so many bytes.
func tyOf(n int) api.Ty {
	if n <= 200 {
		return api.Ty{Kind: api.YCon, Path: pathOf(n, "t")}
	}
	return tyTwo(api.YFn, tyOf(100), tyOf(n-104))
}

// patOf: a pattern whose text has so many bytes.
func patOf(n int) api.Pat {
	if n <= 200 {
		return api.Pat{Kind: api.PCon, Path: pathOf(n, "C")}
	}
	return api.Pat{Kind: api.PPair, Kids: []api.Pat{patOf(100), patOf(n - 104)}}
}

// sigOf: a signature expression whose text has so many bytes.
func sigOf(n int) api.Sig {
	return where(sigPath("S"), "t", tyOf(n-len("S where type t = ")))
}

// longs: for each function nodes whose text has so many bytes, at the end of which something longer or shorter stands.
func longs(n int) []any {
	rest := func(s string) int { return n - len(s) }
	x := []api.Exp{low("x")}
	m := sealed(api.MSeal, modPath("M"), sigOf(rest("M :> ")))
	return []any{
		tyOf(n), tyTwo(api.YPair, tyCon("int"), tyTwo(api.YFn, tyCon("t"), tyOf(rest("int * (t -> )")))), tyTwo(api.YFn, tyCon("t"), tyOf(rest("t -> "))),
		patOf(n), patCon("C", patCon("D", patOf(rest("C (D )")))),
		api.Exp{Kind: api.EAnn, Kids: x, Tys: []api.Ty{tyOf(rest("(x : )"))}},
		api.Exp{Kind: api.EFn, Pats: []api.Pat{patOf(rest("fn  => x"))}, Kids: x},
		apply(low("f"), apply(low("g"), api.Exp{Kind: api.EFn, Pats: []api.Pat{patOf(rest("f (g (fn  => x))"))}, Kids: x})),
		m, functorOf("F", sealed(api.MAsc, modPath("M"), sigOf(rest("F(M : )")))),
		api.Mod{Kind: api.MStruct, Decs: []api.Dec{{Kind: api.DType, Name: "t", Tys: []api.Ty{tyOf(rest("struct type t =  end"))}}}},
		sigOf(n), api.Sig{Kind: api.SSig, Specs: []api.Spec{{Kind: api.CType, Name: "t", Tys: []api.Ty{tyOf(rest("sig type t =  type t end"))}}, {Kind: api.CType, Name: "t"}}},
		api.Dec{Kind: api.DVal, Name: "x", Tys: []api.Ty{tyOf(rest("val x :  = x"))}, Exps: x},
		api.Dec{Kind: api.DFun, Name: "f", Params: []string{"x"}, Tys: []api.Ty{tyOf(rest("fun f x :  = x"))}, Exps: x},
		api.Dec{Kind: api.DType, Name: "t", Tys: []api.Ty{tyOf(rest("type t = "))}},
		api.Dec{Kind: api.DData, Name: "t", Cons: []api.Con{{Name: "A", Tys: []api.Ty{tyOf(rest("data t = A of  | B"))}}, {Name: "B"}}},
		api.Dec{Kind: api.DStr, Name: "M", Mods: []api.Mod{sealed(api.MSeal, modPath("M"), sigOf(rest("structure M = M :> ")))}},
		api.Dec{Kind: api.DSig, Name: "S", Sigs: []api.Sig{sigOf(rest("signature S = "))}},
		api.Dec{Kind: api.DFunctor, Name: "F", Params: []string{"X"}, Sigs: []api.Sig{sigOf(rest("functor F(X : ) = M"))}, Mods: []api.Mod{modPath("M")}},
		[]api.Dec{{Kind: api.DType, Name: "t", Tys: []api.Ty{tyOf(rest("type t = \n"))}}},
		[]api.Dec{{Kind: api.DType, Name: "t", Tys: []api.Ty{tyOf(rest("type t = \nval x = 1\n"))}}, val("x", number(1))},
		[]api.Dec{val("x", number(1)), {Kind: api.DType, Name: "t", Tys: []api.Ty{tyOf(rest("type t = \nval x = 1\n"))}}},
	}
}

// TestP603Sizes: texts of MaxText bytes, of some less, and of some more, which are told by no call.
func TestP603Sizes(t *testing.T) {
	for n := api.MaxText - 80; n <= api.MaxText+80; n++ {
		for i, node := range longs(n) {
			s, e := text(node)
			switch {
			case n <= api.MaxText && (len(s) != n || e != api.OK):
				t.Errorf("node %d, %T, of %d bytes: %d bytes, %v", i, node, n, len(s), e)
			case n > api.MaxText && (s != "" || e != api.ErrBig):
				t.Errorf("node %d, %T, of %d bytes: %d bytes, %v, not ErrBig", i, node, n, len(s), e)
			}
		}
	}
}

// TestP603Last: with the byte 10 of its last declaration a unit is too long, where the declaration alone is not.
func TestP603Last(t *testing.T) {
	d := api.Dec{Kind: api.DType, Name: "t", Tys: []api.Ty{tyOf(api.MaxText - len("type t = "))}}
	if s, e := print.Dec(d); len(s) != api.MaxText || e != api.OK {
		t.Errorf("Dec: %d bytes, %v", len(s), e)
	}
	if s, e := print.Unit([]api.Dec{d}); s != "" || e != api.ErrBig {
		t.Errorf("Unit: %d bytes, %v, not ErrBig", len(s), e)
	}
}

// TestP603Huge: nodes whose texts have far more bytes than there may be.
func TestP603Huge(t *testing.T) {
	ty, p, e := tyOf(1), patOf(1), low("x")
	for range 16 {
		ty = tyTwo(api.YFn, ty, ty)
		p = api.Pat{Kind: api.PPair, Kids: []api.Pat{p, p}}
		e = two(api.EPair, 0, e, e)
	}
	many := make([]api.Dec, 20000)
	specs := make([]api.Spec, 20000)
	for i := range many {
		many[i], specs[i] = val("x", number(1)), api.Spec{Kind: api.CType, Name: "t"}
	}
	for _, node := range []any{
		ty, p, e, api.Mod{Kind: api.MStruct, Decs: many}, api.Sig{Kind: api.SSig, Specs: specs},
		val("x", e), many, many[:api.MaxNodes/2], // the last one is no more than there may be for tree
	} {
		if s, e := text(node); s != "" || e != api.ErrBig {
			t.Errorf("%T: %d bytes, %v, not ErrBig", node, len(s), e)
		}
	}
}

// deep: for each function nodes that are nested so deep.
func deep(n int) []any {
	ty, p, e, m, s := tyCon("int"), patCon("A"), number(1), modPath("M"), sigPath("S")
	var decs []api.Dec
	for i := 1; i < n; i++ {
		if i == n-1 {
			decs = []api.Dec{val("x", e)}
		}
		ty, p, e = tyTwo(api.YFn, tyCon("t"), ty), patCon("A", p), apply(low("f"), e)
		m, s = functorOf("F", m), where(s, "t", tyCon("int"))
	}
	return []any{ty, p, e, m, s, decs[0], decs}
}

// TestF61Deep: nodes at MaxDepth have a text, one deeper they have none.
func TestF61Deep(t *testing.T) {
	for i, node := range deep(api.MaxDepth) {
		if s, e := text(node); s == "" || e != api.OK {
			t.Errorf("node %d, %T: %q, %v", i, node, brief(s), e)
		}
	}
	for i, node := range deep(api.MaxDepth + 1) {
		if s, e := text(node); s != "" || e != api.ErrDeep {
			t.Errorf("node %d, %T: %q, %v, not ErrDeep", i, node, brief(s), e)
		}
	}
	arrows, _ := print.Ty(deep(api.MaxDepth)[0].(api.Ty))
	if want := strings.Repeat("t -> ", api.MaxDepth-1) + "int"; arrows != want {
		t.Errorf("%q, not %q", arrows, want)
	}
}

// TestF61Both: what is not right, or too deep, and too long too has tree's error.
func TestF61Both(t *testing.T) {
	long := tyOf(2 * api.MaxText)
	bad := tyTwo(api.YFn, long, tyCon("T"))
	deepTy := long
	for range api.MaxDepth {
		deepTy = tyTwo(api.YFn, tyCon("t"), deepTy)
	}
	for _, c := range []struct {
		ty   api.Ty
		want api.Errno
	}{
		{long, api.ErrBig}, {bad, api.ErrName}, {deepTy, api.ErrDeep}, {tyTwo(api.YFn, long, api.Ty{}), api.ErrArg},
		{tyTwo(api.YFn, deepTy, api.Ty{}), api.ErrDeep},
	} {
		tys := []api.Ty{c.ty}
		d := api.Dec{Kind: api.DType, Name: "t", Tys: tys}
		for _, node := range []any{
			c.ty, api.Exp{Kind: api.EAnn, Kids: []api.Exp{number(1)}, Tys: tys}, api.Mod{Kind: api.MStruct, Decs: []api.Dec{d}},
			api.Sig{Kind: api.SSig, Specs: []api.Spec{{Kind: api.CVal, Name: "x", Tys: tys}}}, d, []api.Dec{val("x", number(1)), d},
		} {
			if s, e := text(node); s != "" || e != c.want {
				t.Errorf("%T: %q, %v, not %v", node, brief(s), e, c.want)
			}
		}
	}
	p := api.Pat{Kind: api.PPair, Kids: []api.Pat{patOf(2 * api.MaxText), {Kind: api.PInt, N: -1}}}
	if s, e := print.Pat(p); s != "" || e != api.ErrArg {
		t.Errorf("Pat: %q, %v, not ErrArg", brief(s), e)
	}
}

// TestF61Wrong: nodes that are not right.
func TestF61Wrong(t *testing.T) {
	badName := strings.Repeat("x", api.MaxName+1)
	nine := make([]string, api.MaxPath+1)
	for i := range nine {
		nine[i] = "A"
	}
	bad := api.Exp{Kind: api.EVar, Path: path("X")}
	for _, c := range []struct {
		node any
		want api.Errno
	}{
		{api.Ty{}, api.ErrArg}, {api.Pat{}, api.ErrArg}, {api.Exp{}, api.ErrArg}, {api.Mod{}, api.ErrArg}, {api.Sig{}, api.ErrArg}, {api.Dec{}, api.ErrArg},
		{[]api.Dec{{}}, api.ErrArg}, {api.Ty{Kind: 5}, api.ErrArg}, {api.Exp{Kind: -1}, api.ErrArg}, {api.Exp{Kind: api.EAnn + 1}, api.ErrArg},
		{number(-1), api.ErrArg}, {two(api.EBin, 0, low("x"), low("x")), api.ErrArg}, {two(api.EBin, 7, low("x"), low("x")), api.ErrArg},
		{two(api.EApp, api.OAdd, low("x"), low("x")), api.ErrArg}, {low("if"), api.ErrName}, {low("a.x"), api.ErrName}, {bad, api.ErrName},
		{tyCon("M.int"), api.ErrName}, {tyCon("end"), api.ErrName}, {tyCon(badName), api.ErrBig}, {api.Ty{Kind: api.YVar, Name: "A"}, api.ErrName},
		{patCon("a"), api.ErrName}, {api.Pat{Kind: api.PCon}, api.ErrArg}, {api.Pat{Kind: api.PCon, Path: nine}, api.ErrBig},
		{api.Pat{Kind: api.PAny, N: 1}, api.ErrArg}, {patCon("A", patCon("B"), patCon("C")), api.ErrArg},
		{api.Exp{Kind: api.ECase, Kids: []api.Exp{low("x")}}, api.ErrArg}, {api.Exp{Kind: api.EIf, Kids: []api.Exp{low("x"), low("x")}}, api.ErrArg},
		{api.Exp{Kind: api.ELet, Decs: []api.Dec{{Kind: api.DType, Name: "t", Tys: []api.Ty{tyCon("int")}}}, Kids: []api.Exp{low("x")}}, api.ErrArg},
		{modPath("m"), api.ErrName}, {sealed(api.MAsc, modPath("M"), api.Sig{Kind: 4}), api.ErrArg}, {where(sigPath("S"), "T", tyCon("int")), api.ErrName},
		{api.Dec{Kind: api.DData, Name: "t"}, api.ErrArg}, {api.Dec{Kind: api.DFun, Name: "f", Exps: []api.Exp{low("x")}}, api.ErrArg},
		{val("X", low("x")), api.ErrName}, {val("", low("x")), api.ErrName}, {val("x", bad), api.ErrName},
		{[]api.Dec{val("x", low("x")), val("x", fn("x", apply(low("f"), bad)))}, api.ErrName},
		{api.Con{Name: "a"}, api.ErrName}, {api.Spec{Kind: api.CVal, Name: "x"}, api.ErrArg},
	} {
		if s, e := text(c.node); s != "" || e != c.want {
			t.Errorf("%+v: %q, %v, not %v", c.node, brief(s), e, c.want)
		}
	}
	// The first of several.
	if _, e := print.Unit([]api.Dec{val("X", low("x")), {}}); e != api.ErrName {
		t.Errorf("Unit: %v, not ErrName", e)
	}
}

// right: what tree says of a node, OK of those that it has no call for.
func right(node any) api.Errno {
	switch n := node.(type) {
	case api.Ty:
		return tree.RightTy(n)
	case api.Pat:
		return tree.RightPat(n)
	case api.Exp:
		return tree.RightExp(n)
	case api.Mod:
		return tree.RightMod(n)
	case api.Sig:
		return tree.RightSig(n)
	case api.Dec:
		_, e := tree.Right([]api.Dec{n})
		return e
	case api.Con:
		_, e := tree.Right([]api.Dec{{Kind: api.DData, Name: "t", Cons: []api.Con{n}}})
		return e
	case api.Spec:
		return tree.RightSig(api.Sig{Kind: api.SSig, Specs: []api.Spec{n}})
	}
	panic("no node")
}
