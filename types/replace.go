package types

import (
	"slices"

	"wafer/api"
)

// replacer: what is put in for nodes of a kind, and how many nodes come of it.
type replacer struct {
	meter
	kind int
	from []int
	to   []api.Type
}

// by: what is put in for a node, and whether it is replaced.
func (r *replacer) by(t api.Type) (api.Type, bool) {
	if t.Kind != r.kind {
		return api.Type{}, false
	}
	i := slices.Index(r.from, t.N)
	if i < 0 {
		return api.Type{}, false
	}
	return r.to[i], true
}

// measure: counts the nodes that would come: for one that is replaced those of what is put in, and none of its Kids.
func (r *replacer) measure(t api.Type) (into, on bool) {
	if by, ok := r.by(t); ok {
		return false, walk(by, r.count)
	}
	return r.count(t)
}

// replaced: what comes, in new memory; it is asked for only where it is not too great.
func (r *replacer) replaced(t api.Type) api.Type {
	if by, ok := r.by(t); ok {
		return fresh(by)
	}
	return renewed(t, r.replaced)
}

// fresh: the same type in new memory.
func fresh(t api.Type) api.Type { return renewed(t, fresh) }

// renewed: a node with what is made of each of its Kids, in a new list.
func renewed(t api.Type, made func(api.Type) api.Type) api.Type {
	t.Kids = slices.Clone(t.Kids)
	for i, kid := range t.Kids {
		t.Kids[i] = made(kid)
	}
	return t
}
