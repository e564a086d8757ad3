package pattern

import (
	"wafer/api"
	"wafer/env"
	"wafer/names"
	"wafer/tree"
	"wafer/unify"
)

// constructors: those that stand in a pattern, by the texts of their paths.
type constructors map[string]env.Con

// of: the constructor of a PCon.
func (c constructors) of(p *api.Pat) env.Con { return c[names.Join(p.Path)] }

// learn: looks for the constructor at a path, and keeps it; false, if it is not there.
func (c constructors) learn(path []string, e *env.Env) bool {
	text := names.Join(path)
	if _, again := c[text]; again {
		return true
	}
	con, err := e.Con(path)
	if err == api.OK {
		c[text] = con
	}
	return err == api.OK
}

// constructorsOf: those of a pattern; or the error of tree.RightPat, ErrTwice, if it binds a name twice, ErrUnbound, if a constructor is not there.
func constructorsOf(p *api.Pat, e *env.Env) (constructors, api.Errno) {
	if err := tree.RightPat(*p); err != api.OK {
		return nil, err
	}
	cons, bound, missing := constructors{}, 0, 0
	each(p, func(part *api.Pat) {
		switch part.Kind {
		case api.PVar:
			bound++
		case api.PCon:
			if !cons.learn(part.Path, e) {
				missing++
			}
		}
	})
	switch {
	case len(tree.Binders(*p)) < bound:
		return nil, api.ErrTwice
	case missing > 0:
		return nil, api.ErrUnbound
	}
	return cons, api.OK
}

// each: does something with a pattern and all that stands in it, from the left.
func each(p *api.Pat, do func(*api.Pat)) {
	do(p)
	for i := range p.Kids {
		each(&p.Kids[i], do)
	}
}

// typer: gives the parts of a pattern types, with the metas of a store.
type typer struct {
	constructors
	store *unify.Store
	binds []Bind
	wrong bool // is there no typing?
}

// typed: the resolved type of a pattern whose constructors are known, and what it binds, or ErrType. With an error the store may have changed.
func typed(p *api.Pat, cons constructors, s *unify.Store) (api.Type, []Bind, api.Errno) {
	t := typer{constructors: cons, store: s}
	whole := t.resolved(t.typeOf(p))
	for i, b := range t.binds {
		t.binds[i].T = t.resolved(b.T)
	}
	if t.wrong {
		return api.Type{}, nil, api.ErrType
	}
	return whole, t.binds, api.OK
}

// typeOf: the type of a right pattern, as far as it is known there.
func (t *typer) typeOf(p *api.Pat) api.Type {
	switch p.Kind {
	case api.PVar:
		meta := t.store.Meta()
		t.binds = append(t.binds, Bind{p.Name, meta})
		return meta
	case api.PInt:
		return api.Type{Kind: api.TInt}
	case api.PTrue, api.PFalse:
		return api.Type{Kind: api.TBool}
	case api.PUnit:
		return api.Type{Kind: api.TUnit}
	case api.PPair:
		first := t.typeOf(&p.Kids[0])
		return api.Type{Kind: api.TPair, Kids: []api.Type{first, t.typeOf(&p.Kids[1])}}
	case api.PCon:
		return t.made(p)
	}
	return t.store.Meta()
}

// made: the type of what a constructor makes, if it has what it must have.
func (t *typer) made(p *api.Pat) api.Type {
	con := t.of(p)
	if len(p.Kids) != len(con.Args) {
		t.wrong = true
		return con.T
	}
	for i, arg := range con.Args {
		if t.store.Unify(t.typeOf(&p.Kids[i]), arg) != api.OK {
			t.wrong = true
		}
	}
	return con.T
}

// resolved: a type with all that the store knows put in; there is no typing with one that is too great.
func (t *typer) resolved(x api.Type) api.Type {
	r, err := t.store.Resolve(x)
	if err != api.OK {
		t.wrong = true
	}
	return r
}
