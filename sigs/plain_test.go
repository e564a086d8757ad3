package sigs_test

import (
	"slices"
	"strings"

	"wafer/api"
	"wafer/env"
	"wafer/tree"
)

// What the chapter's words say, done as plainly as can be: no state is shared, each environment is made anew, and all is counted from its beginning.

func plainElab(e env.Env, g api.Sig, next int) (api.Abs, int, api.Errno) {
	if next < 0 || next > 1073741824 {
		return api.Abs{}, next, api.ErrArg
	}
	if err := tree.RightSig(g); err != api.OK {
		return api.Abs{}, next, err
	}
	a, behind, err := plainSig(e, g, next)
	if err != api.OK {
		return api.Abs{}, next, err
	}
	plainSort(&a.S)
	return a, behind, api.OK
}

func plainSig(e env.Env, g api.Sig, next int) (api.Abs, int, api.Errno) {
	switch g.Kind {
	case api.SPath:
		found, err := e.Sig(g.Path)
		if err != api.OK {
			return api.Abs{}, next, err
		}
		a, behind := plainFresh(found.A, next)
		return a, behind, api.OK
	case api.SWhere:
		a, behind, err := plainSig(e, g.Sigs[0], next)
		if err != api.OK {
			return api.Abs{}, next, err
		}
		t, err := e.Type(g.Tys[0])
		if err != api.OK {
			return api.Abs{}, next, err
		}
		a, err = plainWhere(a, g.Path, t)
		return a, behind, err
	}
	var done []added
	for i, s := range g.Specs {
		if plainTwice(g.Specs[:i], s) {
			return api.Abs{}, next, api.ErrTwice
		}
		behind := next
		if i > 0 {
			behind = done[i-1].behind
		}
		one, err := plainSpec(within(e, done), s, behind)
		if err != api.OK {
			return api.Abs{}, next, err
		}
		done = append(done, one)
		if plainSize(together(done).S) > 4000 {
			return api.Abs{}, next, api.ErrBig
		}
	}
	if len(done) > 0 {
		next = done[len(done)-1].behind
	}
	return together(done), next, api.OK
}

// added: what a specification adds, and the first number behind it.
type added struct {
	api.Abs
	behind int
}

func together(l []added) api.Abs {
	var a api.Abs
	for _, one := range l {
		a.Stamps = append(a.Stamps, one.Stamps...)
		a.S.Types = append(a.S.Types, one.S.Types...)
		a.S.Vals = append(a.S.Vals, one.S.Vals...)
		a.S.Subs = append(a.S.Subs, one.S.Subs...)
	}
	return a
}

// within: the environment in which those ahead stand.
func within(e env.Env, l []added) env.Env {
	out := env.Env{Typs: slices.Clone(e.Typs), Subs: slices.Clone(e.Subs), Sigs: e.Sigs}
	for _, one := range l {
		for _, m := range one.S.Types {
			out.Typs = append(out.Typs, env.Typ{Name: m.Name, T: m.T, Ctors: m.Ctors})
		}
		for _, m := range one.S.Subs {
			out.Subs = append(out.Subs, env.Sub{Name: m.Name, S: m.S})
		}
	}
	return out
}

// plainNames: the names of a specification, each with its sort.
func plainNames(s api.Spec) []string {
	switch s.Kind {
	case api.CVal:
		return []string{"value " + s.Name}
	case api.CStr:
		return []string{"structure " + s.Name}
	}
	l := []string{"type " + s.Name}
	for _, c := range s.Cons {
		l = append(l, "value "+c.Name)
	}
	return l
}

func plainTwice(ahead []api.Spec, s api.Spec) bool {
	var there []string
	for _, one := range ahead {
		there = append(there, plainNames(one)...)
	}
	for _, name := range plainNames(s) {
		if slices.Contains(there, name) {
			return true
		}
		there = append(there, name)
	}
	return false
}

func plainSpec(e env.Env, s api.Spec, next int) (added, api.Errno) {
	none := added{}
	switch s.Kind {
	case api.CVal:
		is, err := e.Scheme(s.Tys[0])
		return added{api.Abs{S: str(api.ValMember{Name: s.Name, S: is})}, next}, err
	case api.CStr:
		a, behind, err := plainSig(e, s.Sigs[0], next)
		return added{api.Abs{Stamps: a.Stamps, S: str(api.SubMember{Name: s.Name, S: a.S})}, behind}, err
	case api.CData:
		of := within(e, []added{{api.Abs{S: str(typ(s.Name, stamp(next)))}, 0}})
		m := typ(s.Name, stamp(next))
		for _, c := range s.Cons {
			one := ctor(c.Name)
			if len(c.Tys) == 1 {
				t, err := of.Type(c.Tys[0])
				if err != api.OK {
					return none, err
				}
				one = ctor(c.Name, t)
			}
			m.Ctors = append(m.Ctors, one)
		}
		return added{abs(ints(next), m), next + 1}, api.OK
	}
	if len(s.Tys) == 0 {
		return added{abs(ints(next), typ(s.Name, stamp(next))), next + 1}, api.OK
	}
	t, err := e.Type(s.Tys[0])
	return added{api.Abs{S: str(typ(s.Name, t))}, next}, err
}

// plainAt: the types at a path in a structure, none or one.
func plainAt(s api.Str, path []string) []api.Type {
	if len(path) == 0 {
		return nil
	}
	var l []api.Type
	if len(path) == 1 {
		for _, m := range s.Types {
			if m.Name == path[0] {
				l = []api.Type{m.T}
			}
		}
		return l
	}
	for _, m := range s.Subs {
		if m.Name == path[0] {
			l = plainAt(m.S, path[1:])
		}
	}
	return l
}

// plainData: the stamps of all members with constructors.
func plainData(s api.Str) []int {
	var l []int
	for _, m := range s.Types {
		if len(m.Ctors) > 0 {
			l = append(l, m.T.N)
		}
	}
	for _, m := range s.Subs {
		l = append(l, plainData(m.S)...)
	}
	return l
}

func plainWhere(a api.Abs, path []string, t api.Type) (api.Abs, api.Errno) {
	at := plainAt(a.S, path)
	if len(at) == 0 {
		return api.Abs{}, api.ErrUnbound
	}
	n := at[0].N
	if at[0].Kind != api.TStamp || !slices.Contains(a.Stamps, n) || slices.Contains(plainData(a.S), n) {
		return api.Abs{}, api.ErrWhere
	}
	out := api.Abs{S: over(a.S, func(one api.Type) api.Type {
		if one.Kind == api.TStamp && one.N == n {
			return t
		}
		return one
	})}
	for _, own := range a.Stamps {
		if own != n {
			out.Stamps = append(out.Stamps, own)
		}
	}
	if plainSize(out.S) > 4000 || slices.ContainsFunc(allTypes(out.S), func(one api.Type) bool { return plainNodes(one) > 1000 }) {
		return api.Abs{}, api.ErrBig
	}
	return out, api.OK
}

func plainFresh(a api.Abs, next int) (api.Abs, int) {
	out := api.Abs{}
	for i := range a.Stamps {
		out.Stamps = append(out.Stamps, next+i)
	}
	out.S = over(a.S, func(one api.Type) api.Type {
		if i := slices.Index(a.Stamps, one.N); one.Kind == api.TStamp && i >= 0 {
			return stamp(next + i)
		}
		return one
	})
	return out, next + len(a.Stamps)
}

// over: a structure without functors and signatures, with what comes in place of each type without Kids.
func over(s api.Str, leaf func(api.Type) api.Type) api.Str {
	var whole func(t api.Type) api.Type
	whole = func(t api.Type) api.Type {
		if len(t.Kids) == 0 {
			return leaf(t)
		}
		out := node(t.Kind, t.N)
		for _, k := range t.Kids {
			out.Kids = append(out.Kids, whole(k))
		}
		return out
	}
	var out api.Str
	for _, m := range s.Types {
		is := typ(m.Name, whole(m.T))
		for _, c := range m.Ctors {
			one := ctor(c.Name)
			for _, t := range c.Args {
				one.Args = append(one.Args, whole(t))
			}
			is.Ctors = append(is.Ctors, one)
		}
		out.Types = append(out.Types, is)
	}
	for _, m := range s.Vals {
		out.Vals = append(out.Vals, poly(m.Name, m.S.Gens, whole(m.S.T)))
	}
	for _, m := range s.Subs {
		out.Subs = append(out.Subs, api.SubMember{Name: m.Name, S: over(m.S, leaf)})
	}
	return out
}

// allTypes: those that stand in a structure.
func allTypes(s api.Str) []api.Type {
	var l []api.Type
	for _, m := range s.Types {
		l = append(l, m.T)
		for _, c := range m.Ctors {
			l = append(l, c.Args...)
		}
	}
	for _, m := range s.Vals {
		l = append(l, m.S.T)
	}
	for _, m := range s.Subs {
		l = append(l, allTypes(m.S)...)
	}
	return l
}

func plainNodes(t api.Type) int {
	n := 1
	for _, k := range t.Kids {
		n += plainNodes(k)
	}
	return n
}

func plainSize(s api.Str) int {
	n := 1 + len(s.Types) + len(s.Vals) + len(s.Subs)
	for _, m := range s.Types {
		n += plainNodes(m.T) + len(m.Ctors)
		for _, c := range m.Ctors {
			for _, t := range c.Args {
				n += plainNodes(t)
			}
		}
	}
	for _, m := range s.Vals {
		n += plainNodes(m.S.T)
	}
	for _, m := range s.Subs {
		n += plainSize(m.S)
	}
	return n
}

func plainSort(s *api.Str) {
	slices.SortStableFunc(s.Types, func(a, b api.TyMember) int { return strings.Compare(a.Name, b.Name) })
	slices.SortStableFunc(s.Vals, func(a, b api.ValMember) int { return strings.Compare(a.Name, b.Name) })
	slices.SortStableFunc(s.Subs, func(a, b api.SubMember) int { return strings.Compare(a.Name, b.Name) })
	for i := range s.Subs {
		plainSort(&s.Subs[i].S)
	}
}
