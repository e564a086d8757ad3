package target

import "wafer/api"

// gatherer: what stands free in what it goes through; and all numbers that stand there, those that are bound too.
type gatherer struct {
	walker
	free, all map[int]struct{}
	freeNames map[string]struct{}
}

func newGatherer() *gatherer {
	return &gatherer{free: map[int]struct{}{}, all: map[int]struct{}{}, freeNames: map[string]struct{}{}}
}

func gatheredOf(t *api.TT) *gatherer {
	g := newGatherer()
	g.ofType(t)
	return g
}

func gatheredIn(m *api.TM) *gatherer {
	g := newGatherer()
	g.ofTerm(m)
	return g
}

func (g *gatherer) ofType(t *api.TT) {
	switch {
	case t.Kind == api.GVar:
		g.all[t.N] = struct{}{}
		if _, bound := g.numbers.find(t.N); !bound {
			g.free[t.N] = struct{}{}
		}
	case binds(t):
		g.all[t.N] = struct{}{}
	}
	outer := g.into(t)
	for i := range t.Kids {
		g.ofType(&t.Kids[i])
	}
	g.back(outer)
}

func (g *gatherer) ofTerm(m *api.TM) {
	if m.Kind == api.XVar {
		if _, bound := g.names.find(m.Name); !bound {
			g.freeNames[m.Name] = struct{}{}
		}
	}
	if hidesNumber(m) {
		g.all[m.N] = struct{}{}
	}
	for i := range m.Types {
		g.ofType(&m.Types[i])
	}
	for i := range m.Kids {
		outer := g.intoKid(m, i)
		g.ofTerm(&m.Kids[i])
		g.back(outer)
	}
}
