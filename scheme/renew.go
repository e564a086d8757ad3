package scheme

import "wafer/api"

// renewed: a type in new memory, with what is made of each node's Kind and N. A type of any size may come, also one that types.Replace would refuse.
func renewed(t api.Type, made func(kind, n int) (int, int)) api.Type {
	kind, n := made(t.Kind, t.N)
	if len(t.Kids) == 0 {
		return api.Type{Kind: kind, N: n}
	}
	kids := make([]api.Type, len(t.Kids))
	for i, kid := range t.Kids {
		kids[i] = renewed(kid, made)
	}
	return api.Type{Kind: kind, N: n, Kids: kids}
}

func itself(kind, n int) (int, int) { return kind, n }

// metasFrom: TMeta in place of TGen, from a number on.
func metasFrom(next int) func(kind, n int) (int, int) {
	return func(kind, n int) (int, int) {
		if kind == api.TGen {
			return api.TMeta, next + n
		}
		return kind, n
	}
}

// place: nodes that a scheme leaves open, by what they were.
type place struct{ kind, n int }

// places: the TGen that they become.
type places map[place]int

// add: leaves open the nodes of a kind with these numbers, each of which stands once in the list, behind those that are open already.
func (p places) add(kind int, l []int) {
	for _, n := range l {
		p[place{kind, n}] = len(p)
	}
}

func (p places) becomes(kind, n int) (int, int) {
	if gen, ok := p[place{kind, n}]; ok {
		return api.TGen, gen
	}
	return kind, n
}

// scheme: that of a type with these places open.
func (p places) scheme(t api.Type) api.Scheme {
	return api.Scheme{Gens: len(p), T: renewed(t, p.becomes)}
}
