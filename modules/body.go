package modules

import (
	"wafer/api"
	"wafer/core"
	"wafer/env"
	"wafer/sigs"
	"wafer/trans"
)

// kinds: how many numbers there are up to the last kind of declarations.
const kinds = api.DFunctor + 1

// rule: what a right declaration of one kind adds to a structure, or its error.
type rule func(*body, *api.Dec) (api.Str, api.Errno)

func rulesByKind() [kinds]rule {
	return [kinds]rule{
		api.DVal:     (*body).val,
		api.DFun:     (*body).val,
		api.DType:    (*body).typ,
		api.DData:    (*body).data,
		api.DStr:     (*body).structure,
		api.DSig:     (*body).signature,
		api.DFunctor: (*body).functor,
	}
}

// claimed: the names of one sort that are declared.
type claimed map[string]struct{}

// claim: takes names, as long as none is declared already; is none?
func (c claimed) claim(l ...string) bool {
	for _, name := range l {
		if _, ok := c[name]; ok {
			return false
		}
		c[name] = struct{}{}
	}
	return true
}

// body: what the declarations of one structure have come to so far.
type body struct {
	*builder
	env                                   env.Env // with what they declare: a body within this one adds to the same lists, but is done ahead of what this one adds next
	next                                  int     // the number of the next new stamp
	values, types, structures, signatures claimed
	is                                    api.Abs
	size                                  int               // the nodes of the structure
	layers                                []layer           // what they bind, for those behind them
	fields                                map[string]api.TM // what stands under each label, within all these layers
}

func newBody(b *builder, e env.Env, next int) *body {
	return &body{
		builder: b, env: e, next: next, size: env.Size(api.Str{}, api.MaxStr), fields: map[string]api.TM{},
		values: claimed{}, types: claimed{}, structures: claimed{}, signatures: claimed{},
	}
}

// dec: adds a right declaration, or tells its error.
func (d *body) dec(x *api.Dec) api.Errno {
	more, err := d.rules[x.Kind](d, x)
	if err != api.OK {
		return err
	}
	d.size += env.Size(more, api.MaxStr) - env.Size(api.Str{}, api.MaxStr)
	if d.size > api.MaxStr {
		return api.ErrBig
	}
	s := &d.is.S
	s.Types, s.Vals, s.Subs = append(s.Types, more.Types...), append(s.Vals, more.Vals...), append(s.Subs, more.Subs...)
	s.Funs, s.Sigs = append(s.Funs, more.Funs...), append(s.Sigs, more.Sigs...)
	return api.OK
}

// made: the structure of all that was declared.
func (d *body) made() Made {
	a := api.Abs{Stamps: d.is.Stamps, S: env.Sorted(d.is.S)}
	x := laid(record(d.fields), packs(a, variables(a.Stamps)))
	return Made{a, laid(x, d.layers), d.next}
}

func (d *body) val(x *api.Dec) (api.Str, api.Errno) {
	if !d.values.claim(x.Name) {
		return api.Str{}, api.ErrTwice
	}
	s, is, err := core.Dec(d.env, *x)
	if err != api.OK {
		return api.Str{}, err
	}
	// Core asks that a value's name is bound to it.
	d.layers = append(d.layers, binds(x.Name, is))
	d.fields[x.Name] = variable(x.Name)
	d.env.Vals = append(d.env.Vals, env.Val{Name: x.Name, S: s, X: variable(x.Name)})
	return api.Str{Vals: []api.ValMember{{Name: x.Name, S: s}}}, api.OK
}

func (d *body) typ(x *api.Dec) (api.Str, api.Errno) {
	if !d.types.claim(x.Name) {
		return api.Str{}, api.ErrTwice
	}
	t, err := d.env.Type(x.Tys[0])
	if err != api.OK {
		return api.Str{}, err
	}
	d.env.Typs = append(d.env.Typs, env.Typ{Name: x.Name, T: t})
	return api.Str{Types: []api.TyMember{{Name: x.Name, T: t}}}, api.OK
}

func (d *body) data(x *api.Dec) (api.Str, api.Errno) {
	cons := make([]string, len(x.Cons))
	for i, c := range x.Cons {
		cons[i] = c.Name
	}
	if !d.types.claim(x.Name) || !d.values.claim(cons...) {
		return api.Str{}, api.ErrTwice
	}
	stamp := d.next
	d.next++
	within := d.env
	within.Typs = append(within.Typs, env.Typ{Name: x.Name, T: api.Type{Kind: api.TStamp, N: stamp}})
	m, err := sigs.Data(within, x.Name, x.Cons, stamp)
	if err != api.OK {
		return api.Str{}, err
	}
	d.is.Stamps = append(d.is.Stamps, stamp)
	d.enterData(m)
	return api.Str{Types: []api.TyMember{m}}, api.OK
}

func (d *body) structure(x *api.Dec) (api.Str, api.Errno) {
	if !d.structures.claim(x.Name) {
		return api.Str{}, api.ErrTwice
	}
	m, err := d.mod(d.env, &x.Mods[0], d.next)
	if err != api.OK {
		return api.Str{}, err
	}
	d.next = m.Next
	d.is.Stamps = append(d.is.Stamps, m.A.Stamps...)
	name := d.name(x.Name)
	d.layers = append(d.layers, opens(m.X, m.A.Stamps, name)...)
	d.fields[x.Name] = variable(name)
	d.env.Subs = append(d.env.Subs, env.Sub{Name: x.Name, S: m.A.S, X: variable(name)})
	return api.Str{Subs: []api.SubMember{{Name: x.Name, S: m.A.S}}}, api.OK
}

func (d *body) signature(x *api.Dec) (api.Str, api.Errno) {
	if !d.signatures.claim(x.Name) {
		return api.Str{}, api.ErrTwice
	}
	a, next, err := sigs.Elab(d.env, x.Sigs[0], d.next)
	if err != api.OK {
		return api.Str{}, err
	}
	d.next = next
	d.env.Sigs = append(d.env.Sigs, env.Sig{Name: x.Name, A: a})
	return api.Str{Sigs: []api.SigMember{{Name: x.Name, A: a}}}, api.OK
}

func (d *body) functor(x *api.Dec) (api.Str, api.Errno) {
	if !d.structures.claim(x.Name) {
		return api.Str{}, api.ErrTwice
	}
	a, next, err := sigs.Elab(d.env, x.Sigs[0], d.next)
	if err != api.OK {
		return api.Str{}, err
	}
	param := d.name(x.Params[0])
	within := d.env
	within.Subs = append(within.Subs, env.Sub{Name: x.Params[0], S: a.S, X: variable(param)})
	m, err := d.mod(within, &x.Mods[0], next)
	if err != api.OK {
		return api.Str{}, err
	}
	d.next = m.Next
	f, name := api.Fun{Stamps: a.Stamps, Arg: a.S, Res: m.A}, d.name(x.Name)
	d.layers = append(d.layers, binds(name, function(f, param, m.X)))
	d.fields[x.Name] = variable(name)
	d.env.Funs = append(d.env.Funs, env.Fun{Name: x.Name, F: f, X: variable(name)})
	return api.Str{Funs: []api.FunMember{{Name: x.Name, F: f}}}, api.OK
}

// function: a functor's term: a step is made as it is entered.
func function(f api.Fun, param string, in api.TM) api.TM {
	takes, _ := trans.Str(f.Arg)
	return open(f.Stamps, lam(param, takes, node(api.XTick, in)))
}
