package modules

import (
	"slices"

	"wafer/api"
	"wafer/env"
	"wafer/match"
	"wafer/sigs"
	"wafer/tree"
)

// mod: what a structure expression makes whose nodes are right, though they may be too many.
func (b *builder) mod(e env.Env, m *api.Mod, next int) (Made, api.Errno) {
	if err := counts(next); err != api.OK {
		return Made{}, err
	}
	switch m.Kind {
	case api.MPath:
		return b.path(e, m, next)
	case api.MStruct:
		return b.declared(e, m, next)
	case api.MApp:
		return b.application(e, m, next)
	case api.MLet:
		return b.let(e, m, next)
	}
	return b.sealing(e, m, next)
}

func (b *builder) path(e env.Env, m *api.Mod, next int) (Made, api.Errno) {
	is, err := e.Sub(m.Path)
	if err != api.OK {
		return Made{}, err
	}
	return Made{api.Abs{S: is.S}, is.X, next}, api.OK
}

func (b *builder) declared(e env.Env, m *api.Mod, next int) (Made, api.Errno) {
	d, _, err := b.decs(e, m.Decs, next)
	if err != api.OK {
		return Made{}, err
	}
	return d.made(), api.OK
}

func (b *builder) application(e env.Env, m *api.Mod, next int) (Made, api.Errno) {
	f, err := e.Fun(m.Path)
	if err != api.OK {
		return Made{}, err
	}
	arg, err := b.mod(e, &m.Mods[0], next)
	if err != api.OK {
		return Made{}, err
	}
	return apply(&f, &arg)
}

func (b *builder) sealing(e env.Env, m *api.Mod, next int) (Made, api.Errno) {
	is, err := b.mod(e, &m.Mods[0], next)
	if err != api.OK {
		return Made{}, err
	}
	a, next, err := sigs.Elab(e, m.Sigs[0], is.Next)
	if err != api.OK {
		return Made{}, err
	}
	// The stamps that the signature made count as made, too.
	is.Next = next
	return seal(&is, a, m.Kind == api.MSeal)
}

func (b *builder) let(e env.Env, m *api.Mod, next int) (Made, api.Errno) {
	d, _, err := b.decs(e, m.Decs, next)
	if err != api.OK {
		return Made{}, err
	}
	is, err := b.mod(d.env, &m.Mods[0], d.next)
	if err != api.OK {
		return Made{}, err
	}
	own := standing(d.is.Stamps, &is.A.S)
	is.A.Stamps = slices.Concat(own, is.A.Stamps)
	if env.SizeAbs(is.A, api.MaxStr) > api.MaxStr {
		return Made{}, api.ErrBig
	}
	is.X = laid(laid(is.X, packs(is.A, variables(own))), d.layers)
	return is, api.OK
}

// decs: what declarations make, one by one; or the number of the first one that has an error, and that.
func (b *builder) decs(e env.Env, l []api.Dec, next int) (*body, int, api.Errno) {
	if err := counts(next); err != api.OK {
		return nil, 0, err
	}
	if i, err := tree.Right(l); err != api.OK {
		return nil, i, err
	}
	d := newBody(b, e, next)
	for i := range l {
		if err := d.dec(&l[i]); err != api.OK {
			return nil, i, err
		}
	}
	return d, 0, api.OK
}

// Names that are bound where nothing else stands but what this package makes, so that they catch nothing.
const (
	both     = "both"
	argument = "argument"
	result   = "result"
)

// apply: what a functor makes of an argument, with lists that it may share with both terms.
func apply(f *env.Fun, arg *Made) (Made, api.Errno) {
	l, err := match.Match(arg.A.S, api.Abs{Stamps: f.F.Stamps, S: f.F.Arg})
	if err != api.OK {
		return Made{}, err
	}
	res, err := match.PutAbs(f.F.Res, f.F.Stamps, l)
	if err != api.OK {
		return Made{}, err
	}
	_, takes, err := asked(arg, f.F.Stamps, f.F.Arg, l)
	if err != api.OK {
		return Made{}, err
	}
	res, next := sigs.Fresh(res, arg.Next)
	own := standing(slices.Concat(arg.A.Stamps, res.Stamps), &res.S)
	a := api.Abs{Stamps: own, S: res.S}
	return Made{a, laid(variable(result), slices.Concat(
		[]layer{binds(both, node(api.XPair, f.X, arg.X))},
		opens(node(api.XSnd, variable(both)), arg.A.Stamps, argument),
		opens(node(api.XApp, with(inTarget(l), node(api.XFst, variable(both))), takes), res.Stamps, result),
		packs(a, variables(own)),
	)), next}, api.OK
}

// asked: what is asked, with types that match.Match has put in already, and a term that takes the argument to it.
func asked(has *Made, stamps []int, asks api.Str, l []api.Type) (api.Str, api.TM, api.Errno) {
	s, err := match.Put(asks, stamps, l)
	if err != api.OK {
		return api.Str{}, api.TM{}, err
	}
	x, err := match.Coerce(has.A.S, s, variable(argument))
	return s, x, err
}

// seal: what is behind a signature, with lists that it may share with it and with the term.
func seal(m *Made, a api.Abs, hide bool) (Made, api.Errno) {
	l, err := match.Match(m.A.S, a)
	if err != api.OK {
		return Made{}, err
	}
	s, x, err := asked(m, a.Stamps, a.S, l)
	if err != api.OK {
		return Made{}, err
	}
	hidden := inTarget(l)
	if !hide {
		a = api.Abs{Stamps: standing(m.A.Stamps, &s), S: s}
		hidden = variables(a.Stamps)
	}
	return Made{a, laid(x, append(opens(m.X, m.A.Stamps, argument), packs(a, hidden)...)), m.Next}, api.OK
}
