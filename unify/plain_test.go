package unify_test

import (
	"slices"

	"wafer/api"
)

// plainStore: a second store, by the chapter's words alone: it keeps nothing but how many metas there are and which types were made the same, and solves all that anew each time.
type plainStore struct {
	count int
	pairs [][2]api.Type
}

func (p *plainStore) clone() *plainStore {
	return &plainStore{count: p.count, pairs: slices.Clone(p.pairs)}
}

func (p *plainStore) unify(a, b api.Type) api.Errno {
	more := plainStore{count: p.count, pairs: append(slices.Clip(p.pairs), [2]api.Type{a, b})}
	by, ok := more.solved()
	if !ok {
		return api.ErrType
	}
	for n := range p.count {
		if countUp(putIn(meta(n), by)) > api.MaxType {
			return api.ErrType
		}
	}
	p.pairs = more.pairs
	return api.OK
}

// resolve: by what solved told.
func (p *plainStore) resolve(t api.Type, by map[int]api.Type) (api.Type, api.Errno) {
	t = putIn(t, by)
	if countUp(t) > api.MaxType {
		return api.Type{}, api.ErrBig
	}
	return t, api.OK
}

func (p *plainStore) open(t api.Type, by map[int]api.Type) []int {
	var l []int
	for _, x := range line(putIn(t, by)) {
		if p.isMeta(x) {
			l = append(l, x.N)
		}
	}
	slices.Sort(l)
	return slices.Compact(l)
}

func (p *plainStore) isMeta(t api.Type) bool {
	return t.Kind == api.TMeta && len(t.Kids) == 0 && t.N >= 0 && t.N < p.count
}

// farTooBig: nodes of a type beyond which no store could have fitted it.
const farTooBig = 3 * api.MaxType

// solved: what is put in for metas, all through, so that all pairs become the same; an open one's name is the least of those that it is the same as. False: there is no such.
func (p *plainStore) solved() (map[int]api.Type, bool) {
	by := map[int]api.Type{}
	left := slices.Clone(p.pairs)
	for len(left) > 0 {
		a, b := putIn(left[0][0], by), putIn(left[0][1], by)
		left = left[1:]
		if tell(a) == tell(b) {
			continue
		}
		if !p.isMeta(a) {
			a, b = b, a
		}
		if p.isMeta(a) {
			if countUp(b) > farTooBig || slices.ContainsFunc(line(b), func(x api.Type) bool { return p.isMeta(x) && x.N == a.N }) {
				return nil, false
			}
			laid(by, a.N, b)
			continue
		}
		if a.Kind != b.Kind || a.N != b.N || len(a.Kids) != len(b.Kids) {
			return nil, false
		}
		for i := range a.Kids {
			left = append(left, [2]api.Type{a.Kids[i], b.Kids[i]})
		}
	}
	p.named(by)
	return by, true
}

// laid: puts one more meta in, also in what is put in for others.
func laid(by map[int]api.Type, n int, t api.Type) {
	for m, x := range by {
		by[m] = putIn(x, map[int]api.Type{n: t})
	}
	by[n] = t
}

// named: gives each open meta its own one's name.
func (p *plainStore) named(by map[int]api.Type) {
	least := map[int]api.Type{}
	for n := range p.count {
		x := putIn(meta(n), by)
		if _, again := least[x.N]; p.isMeta(x) && !again {
			least[x.N] = meta(n)
		}
	}
	for n := range p.count {
		by[n] = putIn(putIn(meta(n), by), least)
	}
}

// putIn: a type with others in place of metas.
func putIn(t api.Type, by map[int]api.Type) api.Type {
	if x, ok := by[t.N]; ok && t.Kind == api.TMeta && len(t.Kids) == 0 {
		return x
	}
	y := api.Type{Kind: t.Kind, N: t.N}
	for _, kid := range t.Kids {
		y.Kids = append(y.Kids, putIn(kid, by))
	}
	return y
}

// line: the nodes of a type in one list, each ahead of its Kids.
func line(x api.Type) []api.Type {
	l := []api.Type{x}
	for _, kid := range x.Kids {
		l = append(l, line(kid)...)
	}
	return l
}
