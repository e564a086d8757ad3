package unify

import "wafer/api"

// size: how many nodes the resolved type has, MaxType + 1 if they are more than MaxType.
func (s *Store) size(t api.Type) int {
	if n, ok := s.class(t); ok {
		return s.at(n).size
	}
	nodes := 1
	for _, kid := range t.Kids {
		nodes += s.size(kid)
		if nodes > api.MaxType {
			return api.MaxType + 1
		}
	}
	return nodes
}

// resolved: the resolved type, in new memory; it is asked for only where it is not too great.
func (s *Store) resolved(t api.Type) api.Type {
	n, ok := s.class(t)
	if !ok {
		return renewed(t, s.resolved)
	}
	f := s.at(n)
	if f.is == nil {
		return s.own(f)
	}
	return s.resolved(*f.is)
}

// has: does a class stand in the resolved type? It is asked only of one that is not too great.
func (s *Store) has(t api.Type, class int) bool {
	if n, ok := s.class(t); ok {
		is := s.at(n).is
		return n == class || is != nil && s.has(*is, class)
	}
	for _, kid := range t.Kids {
		if s.has(kid, class) {
			return true
		}
	}
	return false
}

// gatherer: the numbers of open classes. Types of any size may come, so each class is gone into but once.
type gatherer struct {
	*Store
	open []int
	seen map[int]struct{}
}

func (g *gatherer) gather(t api.Type) {
	n, ok := g.class(t)
	if !ok {
		for _, kid := range t.Kids {
			g.gather(kid)
		}
		return
	}
	if _, again := g.seen[n]; again {
		return
	}
	g.seen[n] = struct{}{}
	f := g.at(n)
	switch {
	case f.is != nil:
		g.gather(*f.is)
	case !g.strange(f):
		g.open = append(g.open, f.least)
	}
}

// fresh: the same type in new memory.
func fresh(t api.Type) api.Type { return renewed(t, fresh) }

// renewed: a node with what is made of each of its Kids, in a new list.
func renewed(t api.Type, made func(api.Type) api.Type) api.Type {
	if len(t.Kids) == 0 {
		return api.Type{Kind: t.Kind, N: t.N}
	}
	kids := make([]api.Type, len(t.Kids))
	for i, kid := range t.Kids {
		kids[i] = made(kid)
	}
	return api.Type{Kind: t.Kind, N: t.N, Kids: kids}
}
