package modules

import (
	"slices"
	"strings"

	"wafer/api"
	"wafer/env"
	"wafer/names"
	"wafer/renew"
	"wafer/target"
)

// shelter: makes an environment plain, in lists that are the builder's: terms that are more than a path, or in which a name stands that core may bind, are bound around all that is made, by names that nothing else binds.
func (b *builder) shelter(e *env.Env) {
	e.Vals, e.Cons, e.Typs = slices.Clone(e.Vals), slices.Clone(e.Cons), slices.Clone(e.Typs)
	e.Subs, e.Funs, e.Sigs = slices.Clone(e.Subs), slices.Clone(e.Funs), slices.Clone(e.Sigs)
	terms := termsOf(e)
	for _, x := range terms {
		b.take(x)
	}
	for i := range e.Vals {
		b.take(&e.Vals[i].X)
	}
	for _, x := range terms {
		if !isSafe(x) {
			b.move(x)
		}
	}
	b.values(e.Vals)
}

// termsOf: where the terms of an environment's entries stand, but for those of values.
func termsOf(e *env.Env) []*api.TM {
	var l []*api.TM
	for i := range e.Cons {
		l = append(l, &e.Cons[i].X, &e.Cons[i].Out)
	}
	for i := range e.Subs {
		l = append(l, &e.Subs[i].X)
	}
	for i := range e.Funs {
		l = append(l, &e.Funs[i].X)
	}
	return l
}

// take: no name that stands free in a term will be made.
func (b *builder) take(x *api.TM) {
	for _, name := range target.FreeNames(*x) {
		b.taken[name] = struct{}{}
	}
}

// isSafe: is a term, if there is one, a path from a name that core does not bind?
func isSafe(x *api.TM) bool {
	for x.Kind == api.XSel && len(x.Kids) == 1 {
		x = &x.Kids[0]
	}
	return x.Kind == 0 || x.Kind == api.XVar && !names.Lower(x.Name) && !strings.HasPrefix(x.Name, "$")
}

// move: binds a term around all that is made, and leaves its name in its place.
func (b *builder) move(x *api.TM) {
	is, name := *x, b.name("environment")
	renew.Shared(&is)
	b.moved = append(b.moved, binds(name, is))
	*x = variable(name)
}

// values: binds the values that have another term than their own name by that. This is behind all terms that are moved: their names stand there as they stood.
func (b *builder) values(l []env.Val) {
	seen := map[string]struct{}{}
	var own []layer
	for i := len(l) - 1; i >= 0; i-- {
		v := &l[i]
		_, hidden := seen[v.Name]
		seen[v.Name] = struct{}{}
		if hidden || !names.Lower(v.Name) || v.X.Kind == 0 || v.X.Kind == api.XVar && v.X.Name == v.Name {
			continue
		}
		b.move(&v.X)
		own = append(own, binds(v.Name, v.X))
		v.X = variable(v.Name)
	}
	b.moved = append(b.moved, own...)
}
