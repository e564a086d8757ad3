// Package renew lays plain data into new memory, for all layers whose answers may share no list with what they were handed.
package renew

import (
	"slices"

	"wafer/api"
)

// List: the same list in new memory, in which renew lays the lists of each element anew.
func List[E any](l []E, renew func(*E)) []E {
	l = slices.Clone(l)
	for i := range l {
		renew(&l[i])
	}
	return l
}

// Type: gives a type new lists, all through.
func Type(t *api.Type) { t.Kids = List(t.Kids, Type) }

// Value: the same of a plain value.
func Value(v *api.Value) { v.Kids = List(v.Kids, Value) }

// TargetType: the same of a target type.
func TargetType(t *api.TT) {
	t.Labels = slices.Clone(t.Labels)
	t.Kids = List(t.Kids, TargetType)
}

// Term: the same of a target term, with the types in it.
func Term(m *api.TM) {
	m.Labels = slices.Clone(m.Labels)
	m.Types = List(m.Types, TargetType)
	m.Kids = List(m.Kids, Term)
}
