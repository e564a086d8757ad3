package core

import (
	"wafer/api"
	"wafer/types"
)

// declared: what a declaration comes to: its name's scheme, and where its term stands once it is made.
type declared struct {
	s api.Scheme
	x *api.TM
}

// dec: types a right declaration. Its name is bound behind it by whoever asks.
func (c *typer) dec(d *api.Dec) declared {
	if d.Kind == api.DFun {
		return c.fun(d)
	}
	p := c.exp(&d.Exps[0])
	c.as(p.t, d.Tys)
	if !Value(d.Exps[0]) {
		return declared{types.Mono(p.t), p.x}
	}
	return c.opened(p)
}

// opened: what a value comes to, which has the scheme of its type.
func (c *typer) opened(p part) declared {
	s, numbers := c.open(p.t)
	return declared{s, c.later(func() api.TM {
		m := *p.x
		for i := len(numbers) - 1; i >= 0; i-- {
			m = api.TM{Kind: api.XAll, N: numbers[i], Kids: []api.TM{m}}
		}
		return m
	})}
}

// as: a type is what is written, if something is.
func (c *typer) as(t api.Type, written []api.Ty) {
	for _, w := range written {
		is, err := c.env.Type(w)
		must(err == api.OK)
		c.same(t, is)
	}
}

// fun: types a DFun: within itself its name has one type, behind it the scheme.
func (c *typer) fun(d *api.Dec) declared {
	// Each of Params brings two nodes; very many of them would be nested very deep ahead of the store's own no.
	must(2*len(d.Params) < api.MaxType)
	last := len(d.Params)
	from, ends := make([]api.Type, last), make([]api.Type, last+1) // of each of Params its type, and the one of the function from there on
	ends[last] = c.store.Meta()
	for i := last - 1; i >= 0; i-- {
		from[i] = c.store.Meta()
		ends[i] = both(api.TFn, from[i], ends[i+1])
	}
	whole := c.known(ends[0])
	c.as(ends[last], d.Tys)
	around := c.around.count()
	c.bind(d.Name, types.Mono(whole))
	for i, name := range d.Params {
		c.bind(name, types.Mono(from[i]))
	}
	body := c.exp(&d.Exps[0])
	c.same(body.t, ends[last])
	c.around.leave(around)
	return c.opened(part{whole, c.later(func() api.TM {
		m := tick(*body.x)
		for i := last - 1; i > 0; i-- {
			m = lam(d.Params[i], c.looks(from[i]), m)
		}
		return api.TM{
			Kind: api.XFix, Name: d.Name, Labels: []string{d.Params[0]},
			Types: []api.TT{c.looks(from[0]), c.looks(ends[1])}, Kids: []api.TM{m},
		}
	})})
}
