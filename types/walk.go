package types

import (
	"slices"

	"wafer/api"
)

// walk: goes through the nodes of a type, each ahead of its Kids, and hands them to see, which answers whether to go into the node and whether to go on at all. Did it go on to the end?
func walk(t api.Type, see func(api.Type) (into, on bool)) bool {
	into, on := see(t)
	if !on || !into {
		return on
	}
	for _, kid := range t.Kids {
		if !walk(kid, see) {
			return false
		}
	}
	return true
}

// right: goes on, if a node is right by itself, whatever its Kids are.
func right(t api.Type) (into, on bool) {
	switch t.Kind {
	case api.TInt, api.TBool, api.TUnit:
		return true, t.N == 0 && len(t.Kids) == 0
	case api.TFn, api.TPair:
		return true, t.N == 0 && len(t.Kids) == 2
	case api.TStamp, api.TMeta, api.TGen:
		return true, t.N >= 0 && len(t.Kids) == 0
	}
	return false, false
}

// barred: kinds that no node may have.
type barred []int

func (b barred) spares(t api.Type) (into, on bool) { return true, !slices.Contains(b, t.Kind) }

// meter: how many nodes were gone through.
type meter struct{ nodes int }

// count: goes on, as long as there are no more nodes than there may be.
func (m *meter) count(api.Type) (into, on bool) {
	m.nodes++
	return true, m.nodes <= api.MaxType
}

// size: how many nodes a type has, up to the first one too many, and whether there is none too many.
func size(t api.Type) (nodes int, fits bool) {
	var m meter
	fits = walk(t, m.count)
	return m.nodes, fits
}

// gatherer: the numbers of the nodes of a kind; a type of any size may come, so what is told already stands in a map.
type gatherer struct {
	kind int
	list []int
	told map[int]struct{}
}

// numbers: those of the nodes of a kind, each once, in the order in which they first stand in a type.
func numbers(t api.Type, kind int) []int {
	g := gatherer{kind: kind, told: map[int]struct{}{}}
	walk(t, g.take)
	return g.list
}

func (g *gatherer) take(t api.Type) (into, on bool) {
	if t.Kind != g.kind {
		return true, true
	}
	if _, again := g.told[t.N]; !again {
		g.told[t.N] = struct{}{}
		g.list = append(g.list, t.N)
	}
	return true, true
}
