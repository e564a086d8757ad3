package sigs_test

import (
	"fmt"
	"strings"
	"testing"

	"wafer/api"
	"wafer/env"
	"wafer/parsecore"
	"wafer/parsemod"
	"wafer/print"
	"wafer/sigs"
	"wafer/types"
)

// Nodes of the language, as they are written.
func sig(s string) api.Sig {
	g, at, err := parsemod.Sig(s)
	mustRead(s, at, err)
	return g
}

func ty(s string) api.Ty {
	t, at, err := parsecore.Ty(s)
	mustRead(s, at, err)
	return t
}

func mustRead(s string, at int, err api.Errno) {
	if err != api.OK {
		panic(fmt.Sprintf("%s: %v at %d", s, err, at))
	}
}

// And by hand, where a text would be too long.
func specs(l ...api.Spec) api.Sig { return api.Sig{Kind: api.SSig, Specs: l} }

func path(s string) api.Sig { return api.Sig{Kind: api.SPath, Path: strings.Split(s, ".")} }

func where(g api.Sig, at string, t api.Ty) api.Sig {
	return api.Sig{Kind: api.SWhere, Sigs: []api.Sig{g}, Path: strings.Split(at, "."), Tys: []api.Ty{t}}
}

func cval(name string, t api.Ty) api.Spec {
	return api.Spec{Kind: api.CVal, Name: name, Tys: []api.Ty{t}}
}

func ctype(name string, l ...api.Ty) api.Spec {
	return api.Spec{Kind: api.CType, Name: name, Tys: l}
}

func cdata(name string, l ...api.Con) api.Spec {
	return api.Spec{Kind: api.CData, Name: name, Cons: l}
}

func cstr(name string, g api.Sig) api.Spec {
	return api.Spec{Kind: api.CStr, Name: name, Sigs: []api.Sig{g}}
}

func con(name string, l ...api.Ty) api.Con { return api.Con{Name: name, Tys: l} }

// Types.
func node(kind, n int, kids ...api.Type) api.Type { return api.Type{Kind: kind, N: n, Kids: kids} }

func integer() api.Type { return node(api.TInt, 0) }

func boolean() api.Type { return node(api.TBool, 0) }

func stamp(n int) api.Type { return node(api.TStamp, n) }

func gen(n int) api.Type { return node(api.TGen, n) }

func fn(a, b api.Type) api.Type { return node(api.TFn, 0, a, b) }

func pair(a, b api.Type) api.Type { return node(api.TPair, 0, a, b) }

// wide: a type of pairs with so many leaves, which has one node less than twice as many.
func wide(leaves int, leaf api.Type) api.Type {
	if leaves == 1 {
		return leaf
	}
	return pair(wide(leaves/2, leaf), wide(leaves-leaves/2, leaf))
}

// wideTy: how such a type is written.
func wideTy(leaves int, leaf api.Ty) api.Ty {
	if leaves == 1 {
		return leaf
	}
	return api.Ty{Kind: api.YPair, Kids: []api.Ty{wideTy(leaves/2, leaf), wideTy(leaves-leaves/2, leaf)}}
}

// Structures.
func ctor(name string, args ...api.Type) api.Ctor { return api.Ctor{Name: name, Args: args} }

func typ(name string, t api.Type, ctors ...api.Ctor) api.TyMember {
	return api.TyMember{Name: name, T: t, Ctors: ctors}
}

func val(name string, t api.Type) api.ValMember {
	return api.ValMember{Name: name, S: api.Scheme{T: t}}
}

func poly(name string, gens int, t api.Type) api.ValMember {
	return api.ValMember{Name: name, S: api.Scheme{Gens: gens, T: t}}
}

func sub(name string, members ...any) api.SubMember {
	return api.SubMember{Name: name, S: str(members...)}
}

// str: a structure of such members, each list as they stand.
func str(members ...any) api.Str {
	var s api.Str
	for _, m := range members {
		switch m := m.(type) {
		case api.TyMember:
			s.Types = append(s.Types, m)
		case api.ValMember:
			s.Vals = append(s.Vals, m)
		case api.SubMember:
			s.Subs = append(s.Subs, m)
		case api.FunMember:
			s.Funs = append(s.Funs, m)
		case api.SigMember:
			s.Sigs = append(s.Sigs, m)
		default:
			panic("no member")
		}
	}
	return s
}

func abs(stamps []int, members ...any) api.Abs { return api.Abs{Stamps: stamps, S: str(members...)} }

func ints(l ...int) []int { return l }

// show: an Abs in one line, with the numbers of its stamps.
func show(a api.Abs) string {
	return strings.TrimSpace(fmt.Sprint(a.Stamps) + " " + showStr(a.S))
}

func showStr(s api.Str) string {
	var l []string
	for _, m := range s.Types {
		one := "type " + m.Name + " = " + types.Text(m.T)
		between := ": "
		for _, c := range m.Ctors {
			one += between + c.Name
			between = " | "
			for _, t := range c.Args {
				one += " of " + types.Text(t)
			}
		}
		l = append(l, one)
	}
	for _, m := range s.Vals {
		one := "val " + m.Name + " " + types.SchemeText(m.S)
		if m.S.Gens > 0 {
			one += fmt.Sprint(" /", m.S.Gens)
		}
		l = append(l, one)
	}
	for _, m := range s.Subs {
		l = append(l, "structure "+m.Name+" ("+showStr(m.S)+")")
	}
	if len(s.Funs)+len(s.Sigs) > 0 {
		l = append(l, tell(s.Funs)+tell(s.Sigs))
	}
	return strings.Join(l, ", ")
}

func showSig(g api.Sig) string {
	s, err := print.Sig(g)
	if err != api.OK {
		return brief(tell(g))
	}
	return brief(s)
}

func brief(s string) string {
	if len(s) > 900 {
		return s[:900] + " .."
	}
	return s
}

// tell: all of some plain data as a text.
func tell(x any) string { return fmt.Sprintf("%+v", x) }

// code: an error's short name.
func code(err api.Errno) string {
	switch err {
	case api.ErrArg:
		return "ErrArg"
	case api.ErrTwice:
		return "ErrTwice"
	case api.ErrUnbound:
		return "ErrUnbound"
	case api.ErrTyvar:
		return "ErrTyvar"
	case api.ErrWhere:
		return "ErrWhere"
	case api.ErrDeep:
		return "ErrDeep"
	case api.ErrBig:
		return "ErrBig"
	case api.ErrName:
		return "ErrName"
	}
	return err.Error()
}

// answered: an answer of Elab as a text: the Abs and the number behind, or the error.
func answered(next int, a api.Abs, behind int, err api.Errno) string {
	if err == api.OK {
		return show(a) + fmt.Sprint("; ", behind)
	}
	if tell(a) != tell(api.Abs{}) || behind != next {
		return "something beside an error"
	}
	return code(err)
}

func elab(e env.Env, g api.Sig, next int) string {
	a, behind, err := sigs.Elab(e, g, next)
	return answered(next, a, behind, err)
}

// want: Elab answers that, and so does what the chapter's words say alone.
func want(t *testing.T, e env.Env, g api.Sig, next int, is string) {
	t.Helper()
	if got := elab(e, g, next); got != is {
		t.Errorf("%s: %s, want %s", showSig(g), brief(got), brief(is))
	}
	a, behind, err := plainElab(e, g, next)
	if got := answered(next, a, behind, err); got != is {
		t.Errorf("%s: %s by the chapter's words, want %s", showSig(g), brief(got), brief(is))
	}
}

// wants: lines of a signature and, behind `=>>`, what comes with next 5.
func wants(t *testing.T, e env.Env, lines string) {
	t.Helper()
	for line := range strings.Lines(lines) {
		if line = strings.TrimSpace(line); line == "" {
			continue
		}
		g, is, ok := strings.Cut(line, " =>> ")
		if !ok {
			t.Fatalf("no answer: %s", line)
		}
		want(t, e, sig(g), 5, is)
	}
}
