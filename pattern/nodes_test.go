package pattern_test

import (
	"fmt"
	"strings"

	"wafer/api"
	"wafer/env"
	"wafer/pattern"
	"wafer/types"
	"wafer/unify"
)

// Patterns.
func pat(kind int, kids ...api.Pat) api.Pat { return api.Pat{Kind: kind, Kids: kids} }

func anything() api.Pat { return pat(api.PAny) }

func name(s string) api.Pat { return api.Pat{Kind: api.PVar, Name: s} }

func number(n int64) api.Pat { return api.Pat{Kind: api.PInt, N: n} }

func truth() api.Pat { return pat(api.PTrue) }

func untruth() api.Pat { return pat(api.PFalse) }

func nothing() api.Pat { return pat(api.PUnit) }

func two(a, b api.Pat) api.Pat { return pat(api.PPair, a, b) }

// con: a constructor at a path, which is written with points.
func con(path string, kids ...api.Pat) api.Pat {
	return api.Pat{Kind: api.PCon, Path: strings.Split(path, "."), Kids: kids}
}

// side: patterns one in the other, pair by pair: the first one outside.
func side(l ...api.Pat) api.Pat {
	if len(l) == 1 {
		return l[0]
	}
	return two(l[0], side(l[1:]...))
}

// broad: so many patterns side by side, nested as little as can be.
func broad(count int, leaf func(i int) api.Pat) api.Pat {
	var from func(first, count int) api.Pat
	from = func(first, count int) api.Pat {
		if count == 1 {
			return leaf(first)
		}
		return two(from(first, count/2), from(first+count/2, count-count/2))
	}
	return from(0, count)
}

// Types.
func node(kind, n int, kids ...api.Type) api.Type { return api.Type{Kind: kind, N: n, Kids: kids} }

func stamp(n int) api.Type { return node(api.TStamp, n) }

func meta(n int) api.Type { return node(api.TMeta, n) }

func fn(a, b api.Type) api.Type { return node(api.TFn, 0, a, b) }

func pair(a, b api.Type) api.Type { return node(api.TPair, 0, a, b) }

func integer() api.Type { return node(api.TInt, 0) }

func boolean() api.Type { return node(api.TBool, 0) }

func unit() api.Type { return node(api.TUnit, 0) }

// wide: a type of pairs with so many leaves, which has one node less than twice as many.
func wide(leaves int, leaf api.Type) api.Type {
	if leaves == 1 {
		return leaf
	}
	return pair(wide(leaves/2, leaf), wide(leaves-leaves/2, leaf))
}

// Values.
func vint(n int64) api.Value { return api.Value{Kind: api.VInt, N: n} }

func vbool(n int64) api.Value { return api.Value{Kind: api.VBool, N: n} }

func vunit() api.Value { return api.Value{Kind: api.VUnit} }

func vpair(a, b api.Value) api.Value {
	return api.Value{Kind: api.VPair, Kids: []api.Value{a, b}}
}

func vcon(name string, kids ...api.Value) api.Value {
	return api.Value{Kind: api.VCon, Name: name, Kids: kids}
}

// Terms.
func term(kind int, kids ...api.TM) api.TM { return api.TM{Kind: kind, Kids: kids} }

func v(name string) api.TM { return api.TM{Kind: api.XVar, Name: name} }

func xint(n int64) api.TM { return api.TM{Kind: api.XInt, Int: n} }

func xpair(a, b api.TM) api.TM { return term(api.XPair, a, b) }

func let(name string, is, in api.TM) api.TM {
	return api.TM{Kind: api.XLet, Name: name, Kids: []api.TM{is, in}}
}

func lam(name string, t api.TT, kid api.TM) api.TM {
	return api.TM{Kind: api.XLam, Name: name, Types: []api.TT{t}, Kids: []api.TM{kid}}
}

func app(a, b api.TM) api.TM { return term(api.XApp, a, b) }

// list: variables in a list that ends with unit.
func list(names ...string) api.TM {
	m := term(api.XUnit)
	for i := len(names) - 1; i >= 0; i-- {
		m = xpair(v(names[i]), m)
	}
	return m
}

// tell: all of some plain data as a text.
func tell(x any) string { return fmt.Sprintf("%+v", x) }

func brief(s string) string {
	if len(s) > 600 {
		return s[:600] + " .."
	}
	return s
}

// told: all that can be asked of a store, also of some numbers that are not its own.
func told(s *unify.Store) string {
	out := fmt.Sprint(s.Count())
	for n := range s.Count() + 4 {
		x, err := s.Resolve(meta(n))
		out += fmt.Sprint(" ", types.Text(x), " ", int(err), s.Open(meta(n)))
	}
	return out
}

// answer: what Check answers, with all that the store knows put in, and its metas numbered as they first stand.
func answer(s *unify.Store, t api.Type, l []pattern.Bind, err api.Errno) string {
	if err != api.OK {
		if tell(t) != tell(api.Type{}) || len(l) > 0 {
			return "something beside an error"
		}
		return err.Error()
	}
	numbers := map[int]int{}
	var renumber func(t api.Type) api.Type
	renumber = func(t api.Type) api.Type {
		if t.Kind == api.TMeta {
			if _, ok := numbers[t.N]; !ok {
				numbers[t.N] = len(numbers)
			}
			return meta(numbers[t.N])
		}
		out := node(t.Kind, t.N)
		for _, kid := range t.Kids {
			out.Kids = append(out.Kids, renumber(kid))
		}
		return out
	}
	text := func(t api.Type) string {
		if x, err := s.Resolve(t); err == api.OK {
			t = x
		}
		return types.Text(renumber(t))
	}
	out := text(t)
	for _, b := range l {
		out += "; " + b.Name + ": " + text(b.T)
	}
	return out
}

// checked: the answer of Check in a store.
func checked(p api.Pat, e env.Env, s *unify.Store) string {
	t, l, err := pattern.Check(p, e, s)
	return answer(s, t, l, err)
}
