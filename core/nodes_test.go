package core_test

import (
	"fmt"
	"strings"
	"testing"

	"wafer/api"
	"wafer/core"
	"wafer/env"
	"wafer/parsecore"
	"wafer/parsemod"
	"wafer/print"
	"wafer/types"
)

// Nodes of the language, as they are written.
func exp(s string) api.Exp {
	x, at, err := parsecore.Exp(s)
	mustRead(s, at, err)
	return x
}

func pat(s string) api.Pat {
	p, at, err := parsecore.Pat(s)
	mustRead(s, at, err)
	return p
}

func ty(s string) api.Ty {
	t, at, err := parsecore.Ty(s)
	mustRead(s, at, err)
	return t
}

func dec(s string) api.Dec {
	d, at, err := parsemod.Dec(s)
	mustRead(s, at, err)
	return d
}

func mustRead(s string, at int, err api.Errno) {
	if err != api.OK {
		panic(fmt.Sprintf("%s: %v at %d", s, err, at))
	}
}

// And by hand, where a text would be too long.
func ex(kind int, kids ...api.Exp) api.Exp { return api.Exp{Kind: kind, Kids: kids} }

func num(n int64) api.Exp { return api.Exp{Kind: api.EInt, N: n} }

func id(path string) api.Exp { return api.Exp{Kind: api.EVar, Path: strings.Split(path, ".")} }

func made(path string) api.Exp { return api.Exp{Kind: api.ECon, Path: strings.Split(path, ".")} }

func fnOf(p api.Pat, x api.Exp) api.Exp {
	return api.Exp{Kind: api.EFn, Pats: []api.Pat{p}, Kids: []api.Exp{x}}
}

func apply(f api.Exp, l ...api.Exp) api.Exp {
	for _, x := range l {
		f = ex(api.EApp, f, x)
	}
	return f
}

func both(a, b api.Exp) api.Exp { return ex(api.EPair, a, b) }

func bin(op int, a, b api.Exp) api.Exp {
	return api.Exp{Kind: api.EBin, Op: op, Kids: []api.Exp{a, b}}
}

func ann(x api.Exp, t api.Ty) api.Exp {
	return api.Exp{Kind: api.EAnn, Kids: []api.Exp{x}, Tys: []api.Ty{t}}
}

func letIn(x api.Exp, l ...api.Dec) api.Exp {
	return api.Exp{Kind: api.ELet, Decs: l, Kids: []api.Exp{x}}
}

func caseOf(x api.Exp, l ...branch) api.Exp {
	out := ex(api.ECase, x)
	for _, b := range l {
		out.Pats, out.Kids = append(out.Pats, b.p), append(out.Kids, b.x)
	}
	return out
}

type branch struct {
	p api.Pat
	x api.Exp
}

func val(name string, x api.Exp) api.Dec {
	return api.Dec{Kind: api.DVal, Name: name, Exps: []api.Exp{x}}
}

func fun(name, params string, x api.Exp) api.Dec {
	return api.Dec{Kind: api.DFun, Name: name, Params: strings.Fields(params), Exps: []api.Exp{x}}
}

func pvar(name string) api.Pat { return api.Pat{Kind: api.PVar, Name: name} }

func ppair(a, b api.Pat) api.Pat { return api.Pat{Kind: api.PPair, Kids: []api.Pat{a, b}} }

// broad: so many expressions in pairs, nested as little as can be.
func broad(count int, leaf func(i int) api.Exp) api.Exp {
	var from func(first, count int) api.Exp
	from = func(first, count int) api.Exp {
		if count == 1 {
			return leaf(first)
		}
		return both(from(first, count/2), from(first+count/2, count-count/2))
	}
	return from(0, count)
}

// Types.
func node(kind, n int, kids ...api.Type) api.Type { return api.Type{Kind: kind, N: n, Kids: kids} }

func integer() api.Type { return node(api.TInt, 0) }

func boolean() api.Type { return node(api.TBool, 0) }

func unit() api.Type { return node(api.TUnit, 0) }

func stamp(n int) api.Type { return node(api.TStamp, n) }

func meta(n int) api.Type { return node(api.TMeta, n) }

func gen(n int) api.Type { return node(api.TGen, n) }

func fn(a, b api.Type) api.Type { return node(api.TFn, 0, a, b) }

func pair(a, b api.Type) api.Type { return node(api.TPair, 0, a, b) }

// wide: a type of pairs with so many leaves, which has one node less than twice as many.
func wide(leaves int, leaf api.Type) api.Type {
	if leaves == 1 {
		return leaf
	}
	return pair(wide(leaves/2, leaf), wide(leaves-leaves/2, leaf))
}

// sized: a type of so many nodes, which is an odd number.
func sized(nodes int) api.Type { return wide((nodes+1)/2, integer()) }

func show(d api.Dec) string {
	s, err := print.Dec(d)
	if err != api.OK {
		return brief(fmt.Sprintf("%v: %+v", err, d))
	}
	return brief(s)
}

func brief(s string) string {
	if len(s) > 700 {
		return s[:700] + " .."
	}
	return s
}

// answer: what Dec answers as a text: the scheme's, or the error's.
func answer(e env.Env, d api.Dec) string {
	s, x, err := core.Dec(e, d)
	if err != api.OK {
		if fmt.Sprintf("%+v", s) != fmt.Sprintf("%+v", api.Scheme{}) || fmt.Sprintf("%+v", x) != fmt.Sprintf("%+v", api.TM{}) {
			return "something beside an error"
		}
		return code(err)
	}
	if !types.RightScheme(s) {
		return "a scheme that is not right"
	}
	return types.SchemeText(s)
}

// code: an error's short name.
func code(err api.Errno) string {
	switch err {
	case api.ErrArg:
		return "ErrArg"
	case api.ErrTwice:
		return "ErrTwice"
	case api.ErrUnbound:
		return "ErrUnbound"
	case api.ErrTyvar:
		return "ErrTyvar"
	case api.ErrType:
		return "ErrType"
	case api.ErrFree:
		return "ErrFree"
	case api.ErrDeep:
		return "ErrDeep"
	case api.ErrBig:
		return "ErrBig"
	case api.ErrName:
		return "ErrName"
	}
	return err.Error()
}

// want: Dec answers that, and so does what the chapter's words say alone.
func want(t *testing.T, e env.Env, d api.Dec, is string) {
	t.Helper()
	if got := answer(e, d); got != is {
		t.Errorf("%s: %s, want %s", show(d), brief(got), brief(is))
	}
	if got, ok := plainDec(e, d); ok && got != is {
		t.Errorf("%s: %s by the chapter's words, want %s", show(d), brief(got), brief(is))
	}
}

// wants: lines of a declaration and, behind `=>>`, what comes.
func wants(t *testing.T, e env.Env, lines string) {
	t.Helper()
	for line := range strings.Lines(lines) {
		if line = strings.TrimSpace(line); line == "" {
			continue
		}
		d, is, ok := strings.Cut(line, " =>> ")
		if !ok {
			t.Fatalf("no answer: %s", line)
		}
		want(t, e, dec(d), is)
	}
}

// tell: all of some plain data as a text.
func tell(x any) string { return fmt.Sprintf("%+v", x) }
