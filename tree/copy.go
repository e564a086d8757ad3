package tree

import (
	"slices"

	"wafer/api"
)

// fresh: a list in new memory, in which renew lays the lists of each node anew.
func fresh[N any](l []N, renew func(*N)) []N {
	l = slices.Clone(l)
	each(l, renew)
	return l
}

func freshTy(t *api.Ty) {
	t.Path = slices.Clone(t.Path)
	t.Kids = fresh(t.Kids, freshTy)
}

func freshPat(p *api.Pat) {
	p.Path = slices.Clone(p.Path)
	p.Kids = fresh(p.Kids, freshPat)
}

func freshExp(e *api.Exp) {
	e.Path = slices.Clone(e.Path)
	e.Pats = fresh(e.Pats, freshPat)
	e.Kids = fresh(e.Kids, freshExp)
	e.Decs = fresh(e.Decs, freshDec)
	e.Tys = fresh(e.Tys, freshTy)
}

func freshDec(d *api.Dec) {
	d.Params = slices.Clone(d.Params)
	d.Tys = fresh(d.Tys, freshTy)
	d.Exps = fresh(d.Exps, freshExp)
	d.Cons = fresh(d.Cons, freshCon)
	d.Mods = fresh(d.Mods, freshMod)
	d.Sigs = fresh(d.Sigs, freshSig)
}

func freshCon(c *api.Con) {
	c.Tys = fresh(c.Tys, freshTy)
}

func freshMod(m *api.Mod) {
	m.Path = slices.Clone(m.Path)
	m.Decs = fresh(m.Decs, freshDec)
	m.Mods = fresh(m.Mods, freshMod)
	m.Sigs = fresh(m.Sigs, freshSig)
}

func freshSig(s *api.Sig) {
	s.Path = slices.Clone(s.Path)
	s.Specs = fresh(s.Specs, freshSpec)
	s.Sigs = fresh(s.Sigs, freshSig)
	s.Tys = fresh(s.Tys, freshTy)
}

func freshSpec(c *api.Spec) {
	c.Tys = fresh(c.Tys, freshTy)
	c.Cons = fresh(c.Cons, freshCon)
	c.Sigs = fresh(c.Sigs, freshSig)
}
