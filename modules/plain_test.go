package modules_test

import (
	"slices"

	"wafer/api"
	"wafer/core"
	"wafer/env"
	"wafer/match"
	"wafer/names"
	"wafer/sigs"
	"wafer/tree"
)

// place: what declarations have come to by the chapter's words alone, without terms: entries stand under names of their own.
type place struct {
	e    env.Env
	a    api.Abs
	next int
}

// with: the place with one declaration more, which is right.
func (p place) with(d api.Dec) (place, api.Errno) {
	if p.twice(d) {
		return place{}, api.ErrTwice
	}
	p = place{copied(p.e), env.Rename(p.a, nil, nil), p.next}
	err := p.add(d)
	if err == api.OK && env.Size(p.a.S, api.MaxStr) > api.MaxStr {
		err = api.ErrBig
	}
	if err != api.OK {
		return place{}, err
	}
	return p, api.OK
}

// copied: an environment whose lists may be added to.
func copied(e env.Env) env.Env {
	return env.Env{
		Vals: slices.Clone(e.Vals), Cons: slices.Clone(e.Cons), Typs: slices.Clone(e.Typs),
		Subs: slices.Clone(e.Subs), Funs: slices.Clone(e.Funs), Sigs: slices.Clone(e.Sigs),
	}
}

// twice: is a name of a declaration there already, or twice in it?
func (p place) twice(d api.Dec) bool {
	var there, own []string
	s := p.a.S
	for _, m := range s.Types {
		for _, c := range m.Ctors {
			there = append(there, "value "+c.Name)
		}
		there = append(there, "type "+m.Name)
	}
	for _, m := range s.Vals {
		there = append(there, "value "+m.Name)
	}
	for _, m := range s.Subs {
		there = append(there, "structure "+m.Name)
	}
	for _, m := range s.Funs {
		there = append(there, "structure "+m.Name)
	}
	for _, m := range s.Sigs {
		there = append(there, "signature "+m.Name)
	}
	switch d.Kind {
	case api.DVal, api.DFun:
		own = append(own, "value "+d.Name)
	case api.DType, api.DData:
		own = append(own, "type "+d.Name)
		for _, c := range d.Cons {
			own = append(own, "value "+c.Name)
		}
	case api.DStr, api.DFunctor:
		own = append(own, "structure "+d.Name)
	case api.DSig:
		own = append(own, "signature "+d.Name)
	}
	all := append(there, own...)
	return len(names.Set(all)) < len(all)
}

func (p *place) add(d api.Dec) api.Errno {
	s := &p.a.S
	switch d.Kind {
	case api.DVal, api.DFun:
		is, _, err := core.Dec(p.e, d)
		p.e.Vals = append(p.e.Vals, env.Val{Name: d.Name, S: is, X: v(d.Name)})
		s.Vals = append(s.Vals, api.ValMember{Name: d.Name, S: is})
		return err
	case api.DType:
		t, err := p.e.Type(d.Tys[0])
		p.e.Typs = append(p.e.Typs, env.Typ{Name: d.Name, T: t})
		s.Types = append(s.Types, typ(d.Name, t))
		return err
	case api.DData:
		return p.data(d)
	case api.DStr:
		m, err := plainMod(p.e, d.Mods[0], p.next)
		p.next = m.next
		p.a.Stamps = append(p.a.Stamps, m.a.Stamps...)
		p.e.Subs = append(p.e.Subs, env.Sub{Name: d.Name, S: m.a.S, X: v(d.Name)})
		s.Subs = append(s.Subs, api.SubMember{Name: d.Name, S: m.a.S})
		return err
	case api.DSig:
		a, next, err := sigs.Elab(p.e, d.Sigs[0], p.next)
		p.next = next
		p.e.Sigs = append(p.e.Sigs, env.Sig{Name: d.Name, A: a})
		s.Sigs = append(s.Sigs, api.SigMember{Name: d.Name, A: a})
		return err
	}
	in, err := p.functorEnv(d)
	if err != api.OK {
		return err
	}
	m, err := plainMod(in.e, d.Mods[0], in.next)
	p.next = m.next
	f := api.Fun{Stamps: in.a.Stamps, Arg: in.a.S, Res: m.a}
	p.e.Funs = append(p.e.Funs, env.Fun{Name: d.Name, F: f, X: v(d.Name)})
	s.Funs = append(s.Funs, api.FunMember{Name: d.Name, F: f})
	return err
}

// functorEnv: where a functor's body stands, and what its signature means.
func (p *place) functorEnv(d api.Dec) (place, api.Errno) {
	a, next, err := sigs.Elab(p.e, d.Sigs[0], p.next)
	e := copied(p.e)
	e.Subs = append(e.Subs, env.Sub{Name: d.Params[0], S: a.S, X: v(d.Params[0])})
	return place{e, a, next}, err
}

func (p *place) data(d api.Dec) api.Errno {
	t := stamp(p.next)
	p.e.Typs = append(p.e.Typs, env.Typ{Name: d.Name, T: t})
	m, err := sigs.Data(p.e, d.Name, d.Cons, p.next)
	p.e.Typs = append(p.e.Typs, env.Typ{Name: d.Name, T: t, Ctors: m.Ctors})
	for i, c := range m.Ctors {
		p.e.Cons = append(p.e.Cons, env.Con{Name: c.Name, T: t, Args: c.Args, N: i, All: m.Ctors, X: v(names.Con(c.Name)), Out: v(names.Out(d.Name))})
	}
	p.a.Stamps, p.next = append(p.a.Stamps, p.next), p.next+1
	p.a.S.Types = append(p.a.S.Types, m)
	return err
}

// plainDecs: what declarations come to, or the number of the first one with an error, and that.
func plainDecs(e env.Env, l []api.Dec, next int) (place, int, api.Errno) {
	if next < 0 || next > 1<<30 {
		return place{}, 0, api.ErrArg
	}
	if i, err := tree.Right(l); err != api.OK {
		return place{}, i, err
	}
	p := place{e: e, next: next}
	for i, d := range l {
		var err api.Errno
		if p, err = p.with(d); err != api.OK {
			return place{}, i, err
		}
	}
	p.a.Stamps = left(p.a)
	return p, 0, api.OK
}

// left: the stamps of an Abs that stand in its structure.
func left(a api.Abs) []int {
	var l []int
	free := env.Free(api.Abs{S: a.S})
	for _, n := range a.Stamps {
		if slices.Contains(free, n) {
			l = append(l, n)
		}
	}
	return l
}

// plain: what is made, without a term.
type plain struct {
	a    api.Abs
	next int
}

func plainMod(e env.Env, m api.Mod, next int) (plain, api.Errno) {
	if next < 0 || next > 1<<30 {
		return plain{}, api.ErrArg
	}
	if err := tree.RightMod(m); err != api.OK {
		return plain{}, err
	}
	switch m.Kind {
	case api.MPath:
		s, err := e.Sub(m.Path)
		return plain{api.Abs{S: s.S}, next}, err
	case api.MStruct:
		p, _, err := plainDecs(e, m.Decs, next)
		return plain{p.a, p.next}, err
	case api.MApp:
		f, err := e.Fun(m.Path)
		if err != api.OK {
			return plain{}, err
		}
		arg, err := plainMod(e, m.Mods[0], next)
		if err != api.OK {
			return plain{}, err
		}
		return plainApply(f.F, arg)
	case api.MLet:
		p, _, err := plainDecs(e, m.Decs, next)
		if err != api.OK {
			return plain{}, err
		}
		is, err := plainMod(p.e, m.Mods[0], p.next)
		if err != api.OK {
			return plain{}, err
		}
		is.a.Stamps = append(slices.Clone(p.a.Stamps), is.a.Stamps...)
		is.a.Stamps = left(is.a)
		if env.SizeAbs(is.a, api.MaxStr) > api.MaxStr {
			return plain{}, api.ErrBig
		}
		return is, api.OK
	}
	is, err := plainMod(e, m.Mods[0], next)
	if err != api.OK {
		return plain{}, err
	}
	a, next, err := sigs.Elab(e, m.Sigs[0], is.next)
	if err != api.OK {
		return plain{}, err
	}
	is.next = next
	return plainSeal(is, a, m.Kind == api.MSeal)
}

func plainApply(f api.Fun, arg plain) (plain, api.Errno) {
	l, err := match.Match(arg.a.S, api.Abs{Stamps: f.Stamps, S: f.Arg})
	if err != api.OK {
		return plain{}, err
	}
	res, err := match.PutAbs(f.Res, f.Stamps, l)
	if err != api.OK {
		return plain{}, err
	}
	var fresh []int
	for i := range res.Stamps {
		fresh = append(fresh, arg.next+i)
	}
	is := env.Rename(api.Abs{S: res.S}, res.Stamps, fresh)
	is.Stamps = append(slices.Clone(arg.a.Stamps), fresh...)
	is.Stamps = left(is)
	return plain{is, arg.next + len(fresh)}, api.OK
}

func plainSeal(m plain, a api.Abs, hide bool) (plain, api.Errno) {
	l, err := match.Match(m.a.S, a)
	if err != api.OK {
		return plain{}, err
	}
	if hide {
		return plain{a, m.next}, api.OK
	}
	s, err := match.Put(a.S, a.Stamps, l)
	is := api.Abs{Stamps: m.a.Stamps, S: s}
	is.Stamps = left(is)
	return plain{is, m.next}, err
}
