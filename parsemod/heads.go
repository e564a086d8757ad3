package parsemod

import (
	"wafer/api"
	"wafer/names"
)

// Heads: the set of the high names that paths of declarations begin with, whether the declarations have them themselves or not. A path of one name counts only where a structure, a functor or a signature is named: anywhere else its high name is a constructor's.
func Heads(l []api.Dec) []string {
	var g gatherer
	each(l, g.dec)
	return names.Set(g.found)
}

// gatherer: the names that were met so far, each as often as it was met.
type gatherer struct{ found []string }

// path: keeps the first name of a path, if it is one that Heads asks for; least is how many names the path has to have.
func (g *gatherer) path(p []string, least int) {
	if len(p) >= least && names.Upper(p[0]) {
		g.found = append(g.found, p[0])
	}
}

// each: does something with each node of a list, in their order.
func each[N any](l []N, do func(*N)) {
	for i := range l {
		do(&l[i])
	}
}

func (g *gatherer) ty(t *api.Ty) {
	g.path(t.Path, 2)
	each(t.Kids, g.ty)
}

func (g *gatherer) pat(p *api.Pat) {
	g.path(p.Path, 2)
	each(p.Kids, g.pat)
}

func (g *gatherer) exp(e *api.Exp) {
	g.path(e.Path, 2)
	each(e.Pats, g.pat)
	each(e.Kids, g.exp)
	each(e.Decs, g.dec)
	each(e.Tys, g.ty)
}

func (g *gatherer) dec(d *api.Dec) {
	each(d.Tys, g.ty)
	each(d.Exps, g.exp)
	each(d.Cons, g.con)
	each(d.Mods, g.mod)
	each(d.Sigs, g.sig)
}

func (g *gatherer) con(c *api.Con) { each(c.Tys, g.ty) }

func (g *gatherer) mod(m *api.Mod) {
	least := 2
	if m.Kind == api.MPath || m.Kind == api.MApp {
		least = 1
	}
	g.path(m.Path, least)
	each(m.Decs, g.dec)
	each(m.Mods, g.mod)
	each(m.Sigs, g.sig)
}

func (g *gatherer) sig(s *api.Sig) {
	least := 2
	if s.Kind == api.SPath {
		least = 1
	}
	g.path(s.Path, least)
	each(s.Specs, g.spec)
	each(s.Sigs, g.sig)
	each(s.Tys, g.ty)
}

func (g *gatherer) spec(c *api.Spec) {
	each(c.Tys, g.ty)
	each(c.Cons, g.con)
	each(c.Sigs, g.sig)
}
