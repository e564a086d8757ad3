package target

import (
	"maps"
	"slices"

	"wafer/api"
)

// putter: puts a type in for a number. Each number that is bound stands for the one that its binder is given.
type putter struct {
	walker
	n      int
	by     api.TT
	caught map[int]struct{} // what is free in by: a binder of such a number is given another one
	taken  map[int]struct{} // numbers that no binder is given anew
	next   int
}

// newPutter: nil, if the number is not free in what was gathered: then nothing changes.
func newPutter(g *gatherer, n int, by api.TT) *putter {
	if _, free := g.free[n]; !free {
		return nil
	}
	caught := gatheredOf(&by).free
	maps.Copy(g.all, caught)
	return &putter{n: n, by: by, caught: caught, taken: g.all}
}

// given: the number that a binder is given: its own one, unless that would catch; then one that stands nowhere.
func (p *putter) given(n int) int {
	if _, catches := p.caught[n]; !catches {
		return n
	}
	for {
		n = p.next
		p.next++
		if _, taken := p.taken[n]; !taken {
			return n
		}
	}
}

// stands: is this type one in whose place the other one is put?
func (p *putter) stands(t *api.TT) bool {
	if t.Kind != api.GVar || t.N != p.n {
		return false
	}
	_, bound := p.numbers.find(t.N)
	return !bound
}

// renumbered: binds what a type binds in its Kids, and answers the N that it comes to.
func (p *putter) renumbered(t *api.TT) int {
	switch {
	case t.Kind == api.GVar:
		if as, bound := p.numbers.find(t.N); bound {
			return as
		}
	case binds(t):
		n := p.given(t.N)
		p.numbers.bind(t.N, n)
		return n
	}
	return t.N
}

// put: a list with what each of its types comes to, and whether one of them is another one. What stays is shared with what was handed in: what is put in may stand at many places, and would not fit if it were laid anew at each. (A list at a time, by one function alone: types that were put into one another may be nested as deep as they have nodes, and a level must take little of the stack.)
func (p *putter) put(l []api.TT) (out []api.TT, other bool) {
	out = l
	for i := range l {
		stands, outer := p.stands(&l[i]), p.numbers.depth()
		n := p.renumbered(&l[i])
		kids, otherKids := p.put(l[i].Kids)
		p.numbers.back(outer)
		if !stands && !otherKids && n == l[i].N {
			continue
		}
		if !other {
			out, other = slices.Clone(l), true
		}
		out[i].N, out[i].Kids = n, kids
		if stands {
			out[i] = p.by
		}
	}
	return out, other
}

// putIn: the same of a term.
func (p *putter) putIn(m *api.TM) (api.TM, bool) {
	out := *m
	if hidesNumber(m) {
		out.N = p.given(m.N)
	}
	types, otherTypes := p.put(m.Types)
	kids, otherKids := m.Kids, false
	for i := range m.Kids {
		outer := p.numbers.depth()
		if bindsIn(m, i) {
			p.numbers.bind(m.N, out.N)
		}
		kid, other := p.putIn(&m.Kids[i])
		p.numbers.back(outer)
		if !other {
			continue
		}
		if !otherKids {
			kids, otherKids = slices.Clone(m.Kids), true
		}
		kids[i] = kid
	}
	out.Types, out.Kids = types, kids
	return out, otherTypes || otherKids || out.N != m.N
}
