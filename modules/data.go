package modules

import (
	"wafer/api"
	"wafer/env"
	"wafer/names"
	"wafer/target"
	"wafer/trans"
)

// Labels of the record in which a datatype is hidden: what makes one of its sum, and what takes it apart.
const (
	folds   = "fold"
	unfolds = "unfold"
)

// enterData: what stands behind a datatype sees it. It is hidden at once, with but two functions on it, since all its constructors by themselves would have its sum with the whole datatype in place of each stamp of it.
func (d *body) enterData(m api.TyMember) {
	sum, _ := trans.Sum(m.Ctors)
	out := names.Out(m.Name)
	name := d.name(out)
	d.layers = append(d.layers, opens(hiding(m, sum), []int{m.T.N}, name)...)
	d.layers = append(d.layers, binds(name, record(constructors(m, sum, name))))
	d.fields[out] = selected(out, variable(name))
	d.env.Typs = append(d.env.Typs, env.Typ{Name: m.Name, T: m.T, Ctors: m.Ctors})
	for i, c := range m.Ctors {
		label := names.Con(c.Name)
		d.fields[label] = selected(label, variable(name))
		d.env.Cons = append(d.env.Cons, env.Con{
			Name: c.Name, T: m.T, Args: c.Args, N: i, All: m.Ctors,
			X: selected(label, variable(name)), Out: selected(out, variable(name)),
		})
	}
}

// hiding: a datatype that is hidden, with what makes it of its sum, and what takes it apart.
func hiding(m api.TyMember, sum api.TT) api.TM {
	own := api.TT{Kind: api.GVar, N: m.T.N}
	whole := api.TT{Kind: api.GMu, N: m.T.N, Kids: []api.TT{sum}}
	is := api.TT{Kind: api.GRec, Labels: []string{folds, unfolds}, Kids: []api.TT{
		{Kind: api.GFn, Kids: []api.TT{sum, own}},
		{Kind: api.GFn, Kids: []api.TT{own, sum}},
	}}
	fold := api.TM{Kind: api.XFold, Types: []api.TT{whole}, Kids: []api.TM{variable(argument)}}
	return api.TM{
		Kind:  api.XPack,
		Types: []api.TT{whole, {Kind: api.GEx, N: m.T.N, Kids: []api.TT{is}}},
		Kids: []api.TM{record(map[string]api.TM{
			folds:   lam(argument, target.Put(sum, m.T.N, whole), fold),
			unfolds: lam(argument, whole, node(api.XUnfold, variable(argument))),
		})},
	}
}

// constructors: those of a datatype, and its out, made of the record of a name.
func constructors(m api.TyMember, sum api.TT, name string) map[string]api.TM {
	l := map[string]api.TM{names.Out(m.Name): selected(unfolds, variable(name))}
	for i, c := range m.Ctors {
		l[names.Con(c.Name)] = constructor(c, i, sum, selected(folds, variable(name)))
	}
	return l
}

// constructor: one of a datatype: itself, or what makes it of what it has.
func constructor(c api.Ctor, n int, sum api.TT, fold api.TM) api.TM {
	made := func(of api.TM) api.TM {
		return node(api.XApp, fold, api.TM{Kind: api.XInj, N: n, Types: []api.TT{sum}, Kids: []api.TM{of}})
	}
	if len(c.Args) == 0 {
		return made(node(api.XUnit))
	}
	of, _ := trans.Type(c.Args[0])
	return lam(argument, of, made(variable(argument)))
}
