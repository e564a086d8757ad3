package match

import (
	"slices"

	"wafer/api"
	"wafer/env"
	"wafer/scheme"
	"wafer/target"
)

// own: the name that a structure's term is bound to. Beside it nothing stands where it is bound but what this package makes, so that it catches nothing.
const own = "m"

// far: a substructure that stands so far within what is bound is bound itself, so that its things are not reached by ever longer ways. (To bind each one would nest the term twice as deep.)
const far = 4

// side: a structure, its type in the target, and where its members stand.
type side struct {
	s  *api.Str
	t  *api.TT
	at map[member]int
}

func newSide(s *api.Str, t *api.TT) side { return side{s, t, places(s)} }

// under: the type under a label, nil if there is none.
func (e side) under(label string) *api.TT {
	i, ok := slices.BinarySearch(e.t.Labels, label)
	if !ok {
		return nil
	}
	return &e.t.Kids[i]
}

// sub: the substructure of a name, if there is one.
func (e side) sub(name string) (side, bool) {
	i, ok := e.at[member{aStructure, name}]
	if !ok {
		return side{}, false
	}
	return newSide(&e.s.Subs[i].S, e.under(name)), true
}

// val: the scheme of the value of a name, if there is one.
func (e side) val(name string) (api.Scheme, bool) {
	i, ok := e.at[member{aValue, name}]
	if !ok {
		return api.Scheme{}, false
	}
	return e.s.Vals[i].S, true
}

// coercer: makes terms in surroundings with the free stamps of both structures.
type coercer struct {
	inScope map[int]struct{}
	last    int   // the number that was asked for last: from -1 down, where right types have no stamps
	spare   []int // those that are not in scope: they stand for TGen 0, 1, ..
}

func newCoercer(has, asks api.Str) *coercer {
	c := &coercer{inScope: map[int]struct{}{}}
	take(c.inScope, env.Free(api.Abs{S: has}))
	take(c.inScope, env.Free(api.Abs{S: asks}))
	return c
}

// variable: the number of what stands for TGen i.
func (c *coercer) variable(i int) int {
	for len(c.spare) <= i {
		c.last--
		if _, taken := c.inScope[c.last]; !taken {
			c.spare = append(c.spare, c.last)
		}
	}
	return c.spare[i]
}

// record: a record of what is asked, of the things of a structure that stands at a path of what is bound.
func (c *coercer) record(has, asks side, path []string) api.TM {
	x := api.TM{Kind: api.XRec, Labels: asks.t.Labels}
	for _, label := range x.Labels {
		x.Kids = append(x.Kids, c.thing(has, asks, append(slices.Clip(path), label)))
	}
	return x
}

// thing: what is asked at a path.
func (c *coercer) thing(has, asks side, path []string) api.TM {
	label := path[len(path)-1]
	if inner, ok := asks.sub(label); ok {
		outer, _ := has.sub(label)
		return c.structure(outer, inner, path)
	}
	from, to := has.under(label), asks.under(label)
	if from != nil && target.SameType(*from, *to) {
		return selected(path)
	}
	if narrow, ok := asks.val(label); ok {
		wide, _ := has.val(label)
		return c.instance(wide, narrow, selected(path))
	}
	// A datatype that a later type of its name hides is not asked for, but its labels are there.
	return api.TM{Kind: api.XFail, Types: []api.TT{*to}}
}

// structure: what is asked of the substructure at a path.
func (c *coercer) structure(has, asks side, path []string) api.TM {
	if len(path) < far {
		return c.record(has, asks, path)
	}
	return looked(selected(path), c.record(has, asks, nil))
}

// looked: a structure's term is looked at once, and bound in what is made of it.
func looked(x, in api.TM) api.TM {
	return api.TM{Kind: api.XLet, Name: own, Kids: []api.TM{x, in}}
}

// selected: what stands at a path of what is bound.
func selected(path []string) api.TM {
	x := api.TM{Kind: api.XVar, Name: own}
	for _, label := range path {
		x = api.TM{Kind: api.XSel, Name: label, Kids: []api.TM{x}}
	}
	return x
}

// instance: a term of a scheme as one of a scheme that is less general.
func (c *coercer) instance(wide, narrow api.Scheme, x api.TM) api.TM {
	l, _ := scheme.Match(wide, narrow)
	for _, t := range l {
		x = api.TM{Kind: api.XInst, Types: []api.TT{c.inTarget(t)}, Kids: []api.TM{x}}
	}
	for i := narrow.Gens - 1; i >= 0; i-- {
		x = api.TM{Kind: api.XAll, N: c.variable(i), Kids: []api.TM{x}}
	}
	return x
}

// inTarget: what a right type without TMeta becomes, with variables for its TGen, which are not trans' to give.
func (c *coercer) inTarget(t api.Type) api.TT {
	switch t.Kind {
	case api.TInt:
		return api.TT{Kind: api.GInt}
	case api.TBool:
		return api.TT{Kind: api.GBool}
	case api.TUnit:
		return api.TT{Kind: api.GUnit}
	case api.TStamp:
		return api.TT{Kind: api.GVar, N: t.N}
	case api.TGen:
		return api.TT{Kind: api.GVar, N: c.variable(t.N)}
	}
	kind := api.GFn
	if t.Kind == api.TPair {
		kind = api.GPair
	}
	left := c.inTarget(t.Kids[0])
	return api.TT{Kind: kind, Kids: []api.TT{left, c.inTarget(t.Kids[1])}}
}
