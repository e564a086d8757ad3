package kernel

import (
	"wafer/api"
	"wafer/target"
)

// held: a type that the kernel holds, and what is known of it. A name's type may be far greater than the term in which it stands at many places, so nothing is asked of one type twice.
type held struct {
	api.TT
	nodes    int   // how many, as target.Size tells it; 0: not counted yet
	fits     bool  // it is known to have at most MaxTT
	numbers  []int // those that are free in it, rising
	gathered bool  // they are known
}

// size: how many nodes it has, MaxTT + 1 if they are more than MaxTT.
func (t *held) size() int {
	if t.nodes == 0 {
		t.nodes = target.Size(t.TT, MaxTT)
	}
	return t.nodes
}

// mustFit: gives up, if it has more than MaxTT nodes.
func (t *held) mustFit() {
	t.fits = t.fits || t.size() <= MaxTT
	if !t.fits {
		panic(api.ErrBig)
	}
}

// free: the numbers that are free in it, rising.
func (t *held) free() []int {
	if !t.gathered {
		t.numbers, t.gathered = target.FreeTypes(t.TT), true
	}
	return t.numbers
}

// leaf: a type without parts.
func leaf(kind int) *held { return &held{TT: api.TT{Kind: kind}, nodes: 1} }

// made: a type that is so far without Kids, with these.
func made(t api.TT, kids ...*held) *held {
	out := &held{TT: t, nodes: 1}
	for _, kid := range kids {
		out.Kids = append(out.Kids, kid.TT)
		out.nodes = min(out.nodes+kid.size(), MaxTT+1)
	}
	return out
}

// part: a kid of a type that fits.
func part(t api.TT) *held { return &held{TT: t, fits: true} }

// kids: the Kids of a type that must be of that kind, and have so many. (Types of names that were handed in may be wrong in both.)
func kids(t api.TT, kind, count int) []api.TT {
	must(t.Kind == kind && len(t.Kids) == count)
	return t.Kids
}

// opened: T with another type for n, of a type that must be of that kind, of n and T.
func opened(t api.TT, kind int, by api.TT) *held {
	out := &held{TT: target.Put(kids(t, kind, 1)[0], t.N, by)}
	out.mustFit()
	return out
}

// one: are two types one up to what is bound? (That of a name may meet itself.)
func one(a, b *held) bool { return a == b || target.SameType(a.TT, b.TT) }
