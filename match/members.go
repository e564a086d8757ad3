package match

import (
	"iter"

	"wafer/api"
)

// Kinds of members.
const (
	aType = iota
	aValue
	aStructure
	aFunctor
	aSignature
)

// member: what a structure may have, by its kind and its name.
type member struct {
	kind int
	name string
}

// members: those of a structure one by one, with their places in the lists of their kinds.
func members(s *api.Str) iter.Seq2[member, int] {
	return func(yield func(member, int) bool) {
		_ = each(s.Types, aType, func(m *api.TyMember) string { return m.Name }, yield) &&
			each(s.Vals, aValue, func(m *api.ValMember) string { return m.Name }, yield) &&
			each(s.Subs, aStructure, func(m *api.SubMember) string { return m.Name }, yield) &&
			each(s.Funs, aFunctor, func(m *api.FunMember) string { return m.Name }, yield) &&
			each(s.Sigs, aSignature, func(m *api.SigMember) string { return m.Name }, yield)
	}
}

// each: tells the members of one kind; did it tell all?
func each[M any](l []M, kind int, name func(*M) string, yield func(member, int) bool) bool {
	for i := range l {
		if !yield(member{kind, name(&l[i])}, i) {
			return false
		}
	}
	return true
}

// places: where each member stands; of several of one name the last one counts.
func places(s *api.Str) map[member]int {
	at := map[member]int{}
	for m, i := range members(s) {
		at[m] = i
	}
	return at
}

// counted: the members that count, one by one, with their places.
func counted(s *api.Str) iter.Seq2[member, int] {
	return func(yield func(member, int) bool) {
		last := places(s)
		for m, i := range members(s) {
			if i == last[m] && !yield(m, i) {
				return
			}
		}
	}
}
