package tree

import "wafer/api"

// meter: how many nodes were gone through and how deep the deepest one stands; at is how deep the one stands that is gone through.
type meter struct{ nodes, depth, at int }

// measure: what the nodes of declarations come to.
func measure(l []api.Dec) meter {
	var m meter
	each(l, m.dec)
	return m
}

// enter: counts a node, whose parts are one deeper till it is left.
func (m *meter) enter() {
	m.nodes++
	m.at++
	m.depth = max(m.depth, m.at)
}

func (m *meter) leave() { m.at-- }

func (m *meter) ty(t *api.Ty) {
	m.enter()
	each(t.Kids, m.ty)
	m.leave()
}

func (m *meter) pat(p *api.Pat) {
	m.enter()
	each(p.Kids, m.pat)
	m.leave()
}

func (m *meter) exp(e *api.Exp) {
	m.enter()
	each(e.Pats, m.pat)
	each(e.Kids, m.exp)
	each(e.Decs, m.dec)
	each(e.Tys, m.ty)
	m.leave()
}

func (m *meter) dec(d *api.Dec) {
	m.enter()
	each(d.Tys, m.ty)
	each(d.Exps, m.exp)
	each(d.Cons, m.con)
	each(d.Mods, m.mod)
	each(d.Sigs, m.sig)
	m.leave()
}

func (m *meter) con(c *api.Con) {
	m.enter()
	each(c.Tys, m.ty)
	m.leave()
}

func (m *meter) mod(s *api.Mod) {
	m.enter()
	each(s.Decs, m.dec)
	each(s.Mods, m.mod)
	each(s.Sigs, m.sig)
	m.leave()
}

func (m *meter) sig(s *api.Sig) {
	m.enter()
	each(s.Specs, m.spec)
	each(s.Sigs, m.sig)
	each(s.Tys, m.ty)
	m.leave()
}

func (m *meter) spec(c *api.Spec) {
	m.enter()
	each(c.Tys, m.ty)
	each(c.Cons, m.con)
	each(c.Sigs, m.sig)
	m.leave()
}
