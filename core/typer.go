package core

import (
	"math"

	"wafer/api"
	"wafer/env"
	"wafer/scheme"
	"wafer/trans"
	"wafer/types"
	"wafer/unify"
)

// typer: one call of Dec, for a declaration that was surveyed.
type typer struct {
	env    *env.Env
	store  *unify.Store
	rules  [kinds]rule
	around scope[named]     // the names that the declaration binds
	terms  []func()         // what makes the terms, once all types are known: of parts ahead of what they are parts of
	taken  map[int]struct{} // the stamps of the environment, once they are asked for
	next   int              // the number that is tried next for a variable of the target
}

func newTyper(e *env.Env) *typer {
	return &typer{env: e, store: unify.New(), rules: rulesByKind(), around: newScope[named](), next: math.MaxInt32}
}

// named: what a name stands for.
type named struct {
	s       api.Scheme
	unknown bool // does it have metas, of which something may yet be known?
}

// bind: from here on a name has a scheme.
func (c *typer) bind(name string, s api.Scheme) {
	c.around.bind(name, named{s, len(types.Metas(s.T)) > 0})
}

// part: what an expression comes to: its type, and where its term stands once it is made.
type part struct {
	t api.Type
	x *api.TM
}

// later: where a term will stand that is made once all types are known, behind all that were asked for ahead of it.
func (c *typer) later(made func() api.TM) *api.TM {
	x := new(api.TM)
	c.terms = append(c.terms, func() { *x = made() })
	return x
}

// whole: the scheme and the term of a declaration by itself.
func (c *typer) whole(d *api.Dec) (api.Scheme, api.TM) {
	own := c.dec(d)
	own.s.T = c.resolved(own.s.T)
	if len(types.Metas(own.s.T)) > 0 {
		panic(api.ErrFree)
	}
	c.settle()
	for _, made := range c.terms {
		made()
	}
	return own.s, *own.x
}

// settle: what is not known yet is fixed by no name, so that any type will do.
func (c *typer) settle() {
	for n := range c.store.Count() {
		// Of a meta that is known this is an error, and nothing changes.
		c.store.Unify(api.Type{Kind: api.TMeta, N: n}, leaf(api.TUnit))
	}
}

// same: makes two types the same, or gives up.
func (c *typer) same(a, b api.Type) { must(c.store.Unify(a, b) == api.OK) }

// known: the same type as a meta, if it has parts: the store sees to it that a meta never comes to more than MaxType nodes.
func (c *typer) known(t api.Type) api.Type {
	if len(t.Kids) == 0 {
		return t
	}
	meta := c.store.Meta()
	c.same(meta, t)
	return meta
}

// resolved: a type with all that is known put in.
func (c *typer) resolved(t api.Type) api.Type {
	t, err := c.store.Resolve(t)
	must(err == api.OK)
	return t
}

// open: the scheme of a type, in which all is open that no name around leaves unknown, and the numbers of the target's variables that stand for what is open.
func (c *typer) open(t api.Type) (api.Scheme, []int) {
	t = c.resolved(t)
	metas := types.Metas(t)
	if len(metas) == 0 {
		return types.Mono(t), nil
	}
	keep := c.unknown()
	kept := map[int]struct{}{}
	for _, n := range keep {
		kept[n] = struct{}{}
	}
	var numbers []int
	for _, n := range metas {
		if _, ok := kept[n]; ok {
			continue
		}
		// No name has it any more but in a scheme, so nothing else will be known of it: in the terms of the parts it is that variable.
		numbers = append(numbers, c.number())
		c.same(api.Type{Kind: api.TMeta, N: n}, api.Type{Kind: api.TStamp, N: numbers[len(numbers)-1]})
	}
	return scheme.Generalise(t, keep), numbers
}

// unknown: the metas that stand in the types of the names around.
func (c *typer) unknown() []int {
	var l []api.Type
	for _, is := range c.around.are {
		if is.unknown {
			l = append(l, is.s.T)
		}
	}
	return c.store.Open(api.Type{Kids: l})
}

// number: a new one for a variable of the target. It is none of the environment's stamps, and far from those that count from 0 on, so that it is not in scope wherever the term comes to stand.
func (c *typer) number() int {
	if c.taken == nil {
		c.taken = map[int]struct{}{}
		for _, n := range c.env.Stamps() {
			c.taken[n] = struct{}{}
		}
	}
	for {
		n := c.next
		c.next--
		if _, taken := c.taken[n]; !taken {
			return n
		}
	}
}

// looks: how a type looks in the target, once all is known. (Of a type that trans does not take nothing is promised.)
func (c *typer) looks(t api.Type) api.TT {
	tt, _ := trans.Type(c.resolved(t))
	return tt
}
