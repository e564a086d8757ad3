package modules_test

import (
	"fmt"
	"math"
	"reflect"
	"slices"
	"strconv"
	"strings"
	"testing"

	"wafer/api"
	"wafer/env"
	"wafer/modules"
	"wafer/parsemod"
	"wafer/print"
)

// Nodes of the language, as they are written.
func unit(s string) []api.Dec {
	l, at, err := parsemod.Unit(s)
	mustRead(s, at, err)
	return l
}

func mod(s string) api.Mod {
	m, at, err := parsemod.Mod(s)
	mustRead(s, at, err)
	return m
}

func sig(s string) api.Sig {
	g, at, err := parsemod.Sig(s)
	mustRead(s, at, err)
	return g
}

func mustRead(s string, at int, err api.Errno) {
	if err != api.OK {
		panic(fmt.Sprintf("%s: %v at %d", s, err, at))
	}
}

// And by hand, where a text would be too long.
func split(path string) []string { return strings.Split(path, ".") }

func at(path string) api.Mod { return api.Mod{Kind: api.MPath, Path: split(path)} }

func structure(l ...api.Dec) api.Mod { return api.Mod{Kind: api.MStruct, Decs: l} }

func applied(path string, m api.Mod) api.Mod {
	return api.Mod{Kind: api.MApp, Path: split(path), Mods: []api.Mod{m}}
}

func behind(kind int, m api.Mod, g api.Sig) api.Mod {
	return api.Mod{Kind: kind, Mods: []api.Mod{m}, Sigs: []api.Sig{g}}
}

func letMod(l []api.Dec, m api.Mod) api.Mod {
	return api.Mod{Kind: api.MLet, Decs: l, Mods: []api.Mod{m}}
}

func dval(name string, x api.Exp) api.Dec {
	return api.Dec{Kind: api.DVal, Name: name, Exps: []api.Exp{x}}
}

func dtype(name string, t api.Ty) api.Dec {
	return api.Dec{Kind: api.DType, Name: name, Tys: []api.Ty{t}}
}

func ddata(name string, l ...api.Con) api.Dec {
	return api.Dec{Kind: api.DData, Name: name, Cons: l}
}

func dstr(name string, m api.Mod) api.Dec {
	return api.Dec{Kind: api.DStr, Name: name, Mods: []api.Mod{m}}
}

func dsig(name string, g api.Sig) api.Dec {
	return api.Dec{Kind: api.DSig, Name: name, Sigs: []api.Sig{g}}
}

func dfunctor(name, param string, g api.Sig, m api.Mod) api.Dec {
	return api.Dec{Kind: api.DFunctor, Name: name, Params: []string{param}, Sigs: []api.Sig{g}, Mods: []api.Mod{m}}
}

func con(name string, l ...api.Ty) api.Con { return api.Con{Name: name, Tys: l} }

func specs(l ...api.Spec) api.Sig { return api.Sig{Kind: api.SSig, Specs: l} }

func ycon(path string) api.Ty { return api.Ty{Kind: api.YCon, Path: split(path)} }

func yboth(kind int, a, b api.Ty) api.Ty { return api.Ty{Kind: kind, Kids: []api.Ty{a, b}} }

// wideTy: how a type of pairs with so many leaves is written, which has one node less than twice as many.
func wideTy(leaves int, leaf api.Ty) api.Ty {
	if leaves == 1 {
		return leaf
	}
	return yboth(api.YPair, wideTy(leaves/2, leaf), wideTy(leaves-leaves/2, leaf))
}

func num(n int64) api.Exp { return api.Exp{Kind: api.EInt, N: n} }

func id(path string) api.Exp { return api.Exp{Kind: api.EVar, Path: split(path)} }

func ex(kind int, kids ...api.Exp) api.Exp { return api.Exp{Kind: kind, Kids: kids} }

func pvar(name string) api.Pat { return api.Pat{Kind: api.PVar, Name: name} }

func fnOf(p api.Pat, x api.Exp) api.Exp {
	return api.Exp{Kind: api.EFn, Pats: []api.Pat{p}, Kids: []api.Exp{x}}
}

// Types and structures.
func node(kind, n int, kids ...api.Type) api.Type { return api.Type{Kind: kind, N: n, Kids: kids} }

func integer() api.Type { return node(api.TInt, 0) }

func boolean() api.Type { return node(api.TBool, 0) }

func stamp(n int) api.Type { return node(api.TStamp, n) }

func gen(n int) api.Type { return node(api.TGen, n) }

func fn(a, b api.Type) api.Type { return node(api.TFn, 0, a, b) }

func pair(a, b api.Type) api.Type { return node(api.TPair, 0, a, b) }

func ctor(name string, args ...api.Type) api.Ctor { return api.Ctor{Name: name, Args: args} }

func typ(name string, t api.Type, ctors ...api.Ctor) api.TyMember {
	return api.TyMember{Name: name, T: t, Ctors: ctors}
}

func val(name string, t api.Type) api.ValMember { return poly(name, 0, t) }

func poly(name string, gens int, t api.Type) api.ValMember {
	return api.ValMember{Name: name, S: api.Scheme{Gens: gens, T: t}}
}

func sub(name string, members ...any) api.SubMember {
	return api.SubMember{Name: name, S: str(members...)}
}

// str: a structure of such members, each list as they stand.
func str(members ...any) api.Str {
	var s api.Str
	for _, m := range members {
		switch m := m.(type) {
		case api.TyMember:
			s.Types = append(s.Types, m)
		case api.ValMember:
			s.Vals = append(s.Vals, m)
		case api.SubMember:
			s.Subs = append(s.Subs, m)
		case api.FunMember:
			s.Funs = append(s.Funs, m)
		case api.SigMember:
			s.Sigs = append(s.Sigs, m)
		default:
			panic("no member")
		}
	}
	return s
}

func abs(stamps []int, members ...any) api.Abs { return api.Abs{Stamps: stamps, S: str(members...)} }

func ints(l ...int) []int { return l }

// Terms.
func v(name string) api.TM { return api.TM{Kind: api.XVar, Name: name} }

func sel(label string, x api.TM) api.TM {
	return api.TM{Kind: api.XSel, Name: label, Kids: []api.TM{x}}
}

// edges: numbers at the ends of what may come.
func edges() []int {
	return []int{math.MinInt, math.MinInt32, -2, -1, 0, 1, 1 << 30, 1<<30 + 1, math.MaxInt32, math.MaxInt32 + 1, math.MaxInt - 1, math.MaxInt}
}

func show(l []api.Dec) string {
	s, err := print.Unit(l)
	if err != api.OK {
		return tell(l)
	}
	return s
}

// tell: all that plain data has; a list that is nil is told like an empty one.
func tell(x any) string {
	var b strings.Builder
	tellIn(&b, reflect.ValueOf(x), false)
	return b.String()
}

// tellRoom: the same, with what stands in the spare room of lists.
func tellRoom(x any) string {
	var b strings.Builder
	tellIn(&b, reflect.ValueOf(x), true)
	return b.String()
}

func tellIn(b *strings.Builder, v reflect.Value, room bool) {
	switch v.Kind() {
	case reflect.Int, reflect.Int64:
		b.WriteString(strconv.FormatInt(v.Int(), 10))
	case reflect.String:
		b.WriteString(strconv.Quote(v.String()))
	case reflect.Struct:
		b.WriteString("{")
		for i := range v.NumField() {
			tellIn(b, v.Field(i), room)
			b.WriteString(" ")
		}
		b.WriteString("}")
	case reflect.Slice:
		all := v
		b.WriteString("[" + strconv.Itoa(v.Len()) + ":")
		if room {
			all = v.Slice(0, v.Cap())
		}
		for i := range all.Len() {
			tellIn(b, all.Index(i), room)
			b.WriteString(" ")
		}
		b.WriteString("]")
	default:
		panic("no plain data")
	}
}

// brief: a text that is not too long to be told.
func brief(s string) string {
	if len(s) > 1500 {
		return s[:1500] + " .."
	}
	return s
}

// code: an error's short name.
func code(err api.Errno) string {
	for _, c := range []struct {
		err  api.Errno
		name string
	}{
		{api.OK, "OK"}, {api.ErrArg, "ErrArg"}, {api.ErrBig, "ErrBig"}, {api.ErrDeep, "ErrDeep"}, {api.ErrName, "ErrName"}, {api.ErrTwice, "ErrTwice"},
		{api.ErrUnbound, "ErrUnbound"}, {api.ErrType, "ErrType"}, {api.ErrFree, "ErrFree"}, {api.ErrTyvar, "ErrTyvar"}, {api.ErrMatch, "ErrMatch"},
		{api.ErrWhere, "ErrWhere"}, {api.ErrFuel, "ErrFuel"}, {api.ErrCase, "ErrCase"}, {api.ErrZero, "ErrZero"},
	} {
		if c.err == err {
			return c.name
		}
	}
	return err.Error()
}

// lines: the text of an Abs with marks for the ends of lines, the stamps ahead of it.
func lines(a api.Abs) string {
	return strings.ReplaceAll(strings.TrimSuffix(env.Text(a), "\n"), "\n", "; ")
}

// answer: what a call of Decs answers, in one line: the text and the first number behind, or the error and the place of it.
func answer(m modules.Made, i int, err api.Errno) string {
	if err != api.OK {
		out := code(err) + " at " + strconv.Itoa(i)
		if tell(m) != tell(modules.Made{}) {
			out += " and something made"
		}
		return out
	}
	return strings.TrimSpace(fmt.Sprintf("%s | %d to %d", lines(m.A), len(m.A.Stamps), m.Next))
}

// answerMod: the same of Mod, Apply and Seal.
func answerMod(m modules.Made, err api.Errno) string {
	return strings.TrimSuffix(answer(m, 0, err), " at 0")
}

// same: two answers are alike.
func same(t *testing.T, what, got, want string) {
	t.Helper()
	if got != want {
		t.Errorf("%s:\n%s, want\n%s", brief(what), brief(got), brief(want))
	}
}

// common: which numbers stand in both lists.
func common(a, b []int) []int {
	var l []int
	for _, n := range a {
		if slices.Contains(b, n) {
			l = append(l, n)
		}
	}
	return l
}
