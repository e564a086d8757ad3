package target

import (
	"maps"
	"slices"

	"wafer/api"
)

// putter: puts a type in for a number. Each number that is bound stands for the one that its binder is given.
type putter struct {
	walker
	n      int
	by     api.TT
	caught map[int]struct{} // what is free in by: a binder of such a number is given another one
	taken  map[int]struct{} // numbers that no binder is given anew
	next   int
}

// newPutter: nil, if the number is not free in what was gathered: then nothing changes.
func newPutter(g *gatherer, n int, by api.TT) *putter {
	if _, free := g.free[n]; !free {
		return nil
	}
	caught := gatheredOf(&by).free
	maps.Copy(g.all, caught)
	return &putter{n: n, by: by, caught: caught, taken: g.all}
}

// given: the number that a binder is given: its own one, unless that would catch; then one that stands nowhere.
func (p *putter) given(n int) int {
	if _, catches := p.caught[n]; !catches {
		return n
	}
	for {
		n = p.next
		p.next++
		if _, taken := p.taken[n]; !taken {
			return n
		}
	}
}

// put: what a type comes to, and whether it is another one. What stays is shared with what was handed in: what is put in may stand at many places, and would not fit if it were laid anew at each.
func (p *putter) put(t *api.TT) (api.TT, bool) {
	out := *t
	outer := p.numbers.depth()
	switch {
	case t.Kind == api.GVar:
		as, bound := p.numbers.find(t.N)
		if !bound && t.N == p.n {
			return p.by, true
		}
		if bound {
			out.N = as
		}
	case binds(t):
		out.N = p.given(t.N)
		p.numbers.bind(t.N, out.N)
	}
	kids, other := p.putAll(t.Kids)
	out.Kids = kids
	p.numbers.back(outer)
	return out, other || out.N != t.N
}

func (p *putter) putAll(l []api.TT) ([]api.TT, bool) {
	return each(l, func(i int) (api.TT, bool) { return p.put(&l[i]) })
}

// putIn: the same of a term.
func (p *putter) putIn(m *api.TM) (api.TM, bool) {
	out := *m
	if hidesNumber(m) {
		out.N = p.given(m.N)
	}
	types, otherTypes := p.putAll(m.Types)
	kids, otherKids := each(m.Kids, func(i int) (api.TM, bool) {
		outer := p.numbers.depth()
		if bindsIn(m, i) {
			p.numbers.bind(m.N, out.N)
		}
		kid, other := p.putIn(&m.Kids[i])
		p.numbers.back(outer)
		return kid, other
	})
	out.Types, out.Kids = types, kids
	return out, otherTypes || otherKids || out.N != m.N
}

// each: a list with what is made of each of its elements, by number; the same list, if none of them is another one.
func each[E any](l []E, made func(int) (E, bool)) ([]E, bool) {
	var out []E
	for i := range l {
		e, other := made(i)
		if !other {
			continue
		}
		if out == nil {
			out = slices.Clone(l)
		}
		out[i] = e
	}
	if out == nil {
		return l, false
	}
	return out, true
}
