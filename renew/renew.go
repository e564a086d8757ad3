// Package renew lays plain data into new memory, for all layers whose answers may share no list with what they were handed.
package renew

import (
	"slices"

	"wafer/api"
)

// List: the same list in new memory, in which renew lays the lists of each element anew.
func List[E any](l []E, renew func(*E)) []E {
	l = slices.Clone(l)
	for i := range l {
		renew(&l[i])
	}
	return l
}

// Type: gives a type new lists, all through.
func Type(t *api.Type) { t.Kids = List(t.Kids, Type) }

// Value: the same of a plain value.
func Value(v *api.Value) { v.Kids = List(v.Kids, Value) }

// TargetType: the same of a target type.
func TargetType(t *api.TT) {
	t.Labels = slices.Clone(t.Labels)
	t.Kids = List(t.Kids, TargetType)
}

// Term: the same of a target term, with the types in it.
func Term(m *api.TM) {
	m.Labels = slices.Clone(m.Labels)
	m.Types = List(m.Types, TargetType)
	m.Kids = List(m.Kids, Term)
}

// Shared: the same of a term whose parts may share their lists, many times over: what was one list is one new list.
func Shared(m *api.TM) { (&sharer{laid[api.TT]{}, laid[api.TM]{}}).term(m) }

// sharer: the lists that it has laid anew so far.
type sharer struct {
	types laid[api.TT]
	terms laid[api.TM]
}

func (s *sharer) typ(t *api.TT) {
	t.Labels = slices.Clone(t.Labels)
	t.Kids = s.types.list(t.Kids, s.typ)
}

func (s *sharer) term(m *api.TM) {
	m.Labels = slices.Clone(m.Labels)
	m.Types = s.types.list(m.Types, s.typ)
	m.Kids = s.terms.list(m.Kids, s.term)
}

// span: a list by where it begins and how long it is.
type span[E any] struct {
	first *E
	n     int
}

// laid: the new list of each that was met.
type laid[E any] map[span[E]][]E

func (by laid[E]) list(l []E, renew func(*E)) []E {
	if len(l) == 0 {
		return nil
	}
	at := span[E]{&l[0], len(l)}
	is, ok := by[at]
	if !ok {
		is = List(l, renew)
		by[at] = is
	}
	return is
}
