package target

import (
	"slices"

	"wafer/api"
)

// twin: goes through two types or terms side by side, each with what is bound in it.
type twin struct{ left, right walker }

func (w *twin) types(a, b *api.TT) bool {
	if a.Kind != b.Kind || len(a.Kids) != len(b.Kids) || !slices.Equal(a.Labels, b.Labels) || !w.sameNumber(a, b) {
		return false
	}
	left, right := w.left.into(a), w.right.into(b)
	ok := w.typeLists(a.Kids, b.Kids)
	w.left.back(left)
	w.right.back(right)
	return ok
}

func (w *twin) typeLists(a, b []api.TT) bool {
	if len(a) != len(b) {
		return false
	}
	for i := range a {
		if !w.types(&a[i], &b[i]) {
			return false
		}
	}
	return true
}

func (w *twin) sameNumber(a, b *api.TT) bool {
	switch {
	case binds(a):
		return true
	case a.Kind == api.GVar:
		return one(&w.left.numbers, &w.right.numbers, a.N, b.N)
	}
	return a.N == b.N
}

func (w *twin) terms(a, b *api.TM) bool {
	if !w.sameFields(a, b) || len(a.Kids) != len(b.Kids) || !w.typeLists(a.Types, b.Types) {
		return false
	}
	for i := range a.Kids {
		left, right := w.left.intoKid(a, i), w.right.intoKid(b, i)
		ok := w.terms(&a.Kids[i], &b.Kids[i])
		w.left.back(left)
		w.right.back(right)
		if !ok {
			return false
		}
	}
	return true
}

// sameFields: are two terms one in what is neither a type nor a kid of theirs?
func (w *twin) sameFields(a, b *api.TM) bool {
	return a.Kind == b.Kind && a.Int == b.Int &&
		(a.N == b.N || hidesNumber(a)) &&
		(w.sameName(a, b) || hidesName(a)) &&
		sameLabels(a, b)
}

func (w *twin) sameName(a, b *api.TM) bool {
	if a.Kind == api.XVar {
		return one(&w.left.names, &w.right.names, a.Name, b.Name)
	}
	return a.Name == b.Name
}

func sameLabels(a, b *api.TM) bool {
	if len(a.Labels) != len(b.Labels) {
		return false
	}
	for i, label := range a.Labels {
		if label != b.Labels[i] && !hidesLabel(a, i) {
			return false
		}
	}
	return true
}

// one: are two keys bound by binders at one place, or both free and the same?
func one[K comparable](left, right *scope[K], a, b K) bool {
	x, bound := left.find(a)
	y, other := right.find(b)
	if !bound && !other {
		return a == b
	}
	return bound && other && x == y
}
