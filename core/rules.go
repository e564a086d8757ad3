package core

import (
	"wafer/api"
	"wafer/pattern"
	"wafer/scheme"
	"wafer/types"
)

// kinds: how many numbers there are up to the last kind of expressions.
const kinds = api.EAnn + 1

// rule: types a right expression of one kind, or gives up.
type rule func(*typer, *api.Exp) part

func rulesByKind() [kinds]rule {
	return [kinds]rule{
		api.EInt:   (*typer).integer,
		api.ETrue:  (*typer).truth,
		api.EFalse: (*typer).truth,
		api.EUnit:  (*typer).nothing,
		api.EVar:   (*typer).value,
		api.ECon:   (*typer).constructor,
		api.EFn:    (*typer).function,
		api.EApp:   (*typer).application,
		api.EPair:  (*typer).pair,
		api.ELet:   (*typer).let,
		api.EIf:    (*typer).condition,
		api.ECase:  (*typer).choice,
		api.EBin:   (*typer).operation,
		api.EAnn:   (*typer).annotation,
	}
}

// exp: types a right expression.
func (c *typer) exp(x *api.Exp) part {
	p := c.rules[x.Kind](c, x)
	p.t = c.known(p.t)
	return p
}

func (c *typer) integer(x *api.Exp) part {
	return part{leaf(api.TInt), c.later(func() api.TM { return api.TM{Kind: api.XInt, Int: x.N} })}
}

func (c *typer) truth(x *api.Exp) part {
	return part{leaf(api.TBool), c.later(func() api.TM {
		m := node(api.XBool)
		if x.Kind == api.ETrue {
			m.Int = 1
		}
		return m
	})}
}

func (c *typer) nothing(x *api.Exp) part {
	return part{leaf(api.TUnit), c.later(func() api.TM { return node(api.XUnit) })}
}

func (c *typer) value(x *api.Exp) part {
	if len(x.Path) == 1 {
		if is, ok := c.around.nearest(x.Path[0]); ok {
			return c.instance(is.s, variable(x.Path[0]))
		}
	}
	v, _ := c.env.Val(x.Path)
	return c.instance(v.S, v.X)
}

// instance: the type of a scheme with new metas for what is open, and a term of it, made of one that has the scheme.
func (c *typer) instance(s api.Scheme, of api.TM) part {
	t, next, err := scheme.Instantiate(s, c.store.Count())
	must(err == api.OK)
	var metas []api.Type
	for c.store.Count() < next {
		metas = append(metas, c.store.Meta())
	}
	return part{t, c.later(func() api.TM {
		m := of
		for _, meta := range metas {
			m = api.TM{Kind: api.XInst, Types: []api.TT{c.looks(meta)}, Kids: []api.TM{m}}
		}
		return m
	})}
}

func (c *typer) constructor(x *api.Exp) part {
	con, _ := c.env.Con(x.Path)
	t := con.T
	if len(con.Args) > 0 {
		t = both(api.TFn, con.Args[0], con.T)
	}
	return part{t, c.later(func() api.TM { return con.X })}
}

func (c *typer) function(x *api.Exp) part {
	p, from := &x.Pats[0], c.store.Meta()
	to := c.under(p, from, &x.Kids[0])
	return part{both(api.TFn, from, to.t), c.later(func() api.TM {
		if p.Kind == api.PVar {
			return lam(p.Name, c.looks(from), tick(*to.x))
		}
		return lam(argument, c.looks(from), tick(pattern.Term(*p, *c.env, argument, *to.x, fail(c.looks(to.t)))))
	})}
}

// under: types a pattern of a type, and an expression in which its names are bound.
func (c *typer) under(p *api.Pat, of api.Type, x *api.Exp) part {
	t, l, err := pattern.Check(*p, *c.env, c.store)
	must(err == api.OK)
	c.same(t, of)
	around := c.around.count()
	for _, b := range l {
		c.bind(b.Name, types.Mono(b.T))
	}
	in := c.exp(x)
	c.around.leave(around)
	return in
}

func (c *typer) application(x *api.Exp) part {
	f, arg := c.exp(&x.Kids[0]), c.exp(&x.Kids[1])
	result := c.store.Meta()
	c.same(f.t, both(api.TFn, arg.t, result))
	return part{result, c.later(func() api.TM { return node(api.XApp, *f.x, *arg.x) })}
}

func (c *typer) pair(x *api.Exp) part {
	a, b := c.exp(&x.Kids[0]), c.exp(&x.Kids[1])
	return part{both(api.TPair, a.t, b.t), c.later(func() api.TM { return node(api.XPair, *a.x, *b.x) })}
}

func (c *typer) let(x *api.Exp) part {
	around := c.around.count()
	l := make([]declared, len(x.Decs))
	for i := range x.Decs {
		l[i] = c.dec(&x.Decs[i])
		c.bind(x.Decs[i].Name, l[i].s)
	}
	in := c.exp(&x.Kids[0])
	c.around.leave(around)
	return part{in.t, c.later(func() api.TM {
		m := *in.x
		for i := len(l) - 1; i >= 0; i-- {
			m = let(x.Decs[i].Name, *l[i].x, m)
		}
		return m
	})}
}

func (c *typer) condition(x *api.Exp) part {
	what := c.exp(&x.Kids[0])
	c.same(what.t, leaf(api.TBool))
	then, other := c.exp(&x.Kids[1]), c.exp(&x.Kids[2])
	c.same(then.t, other.t)
	return part{then.t, c.later(func() api.TM { return node(api.XIf, *what.x, *then.x, *other.x) })}
}

func (c *typer) choice(x *api.Exp) part {
	what, result := c.exp(&x.Kids[0]), c.store.Meta()
	branches := make([]*api.TM, len(x.Pats))
	for i := range x.Pats {
		branch := c.under(&x.Pats[i], what.t, &x.Kids[i+1])
		c.same(branch.t, result)
		branches[i] = branch.x
	}
	return part{result, c.later(func() api.TM {
		return let(argument, *what.x, c.tried(x.Pats, branches, fail(c.looks(result))))
	})}
}

// tried: goes on as the first branch whose pattern fits the argument, or else as no. What comes behind a branch stands ahead of it as a function: pattern.Term would lay all of it anew with each branch otherwise.
func (c *typer) tried(l []api.Pat, branches []*api.TM, no api.TM) api.TM {
	last := len(l) - 1
	m := pattern.Term(l[last], *c.env, argument, *branches[last], no)
	for i := last - 1; i >= 0; i-- {
		rest := node(api.XApp, variable(others), node(api.XUnit))
		first := pattern.Term(l[i], *c.env, argument, *branches[i], rest)
		m = let(others, lam(unused, api.TT{Kind: api.GUnit}, m), first)
	}
	return m
}

func (c *typer) operation(x *api.Exp) part {
	a, b := c.exp(&x.Kids[0]), c.exp(&x.Kids[1])
	c.same(a.t, leaf(api.TInt))
	c.same(b.t, leaf(api.TInt))
	t := leaf(api.TInt)
	if x.Op == api.OEq || x.Op == api.OLt {
		t = leaf(api.TBool)
	}
	return part{t, c.later(func() api.TM {
		m := node(api.XBin, *a.x, *b.x)
		m.N = x.Op
		return m
	})}
}

func (c *typer) annotation(x *api.Exp) part {
	p := c.exp(&x.Kids[0])
	c.as(p.t, x.Tys)
	return p
}
