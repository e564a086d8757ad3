package env

import (
	"iter"
	"slices"

	"wafer/api"
	"wafer/names"
)

// order: puts each list of structures, whose parts these are, in the order of names; those of one name stay as they stood.
func order(told iter.Seq[part]) {
	for p := range told {
		if p.kind != aStructure {
			continue
		}
		slices.SortStableFunc(p.s.Types, func(a, b api.TyMember) int { return names.Cmp(a.Name, b.Name) })
		slices.SortStableFunc(p.s.Vals, func(a, b api.ValMember) int { return names.Cmp(a.Name, b.Name) })
		slices.SortStableFunc(p.s.Subs, func(a, b api.SubMember) int { return names.Cmp(a.Name, b.Name) })
		slices.SortStableFunc(p.s.Funs, func(a, b api.FunMember) int { return names.Cmp(a.Name, b.Name) })
		slices.SortStableFunc(p.s.Sigs, func(a, b api.SigMember) int { return names.Cmp(a.Name, b.Name) })
	}
}

// survey: what stamps stand in an Abs.
type survey struct {
	*scope
	free   numbers
	stands []*bound // those that stand somewhere, in the order of their first places
}

// surveyed: lays an Abs anew, in the order of names, and surveys it.
func surveyed(a *api.Abs) *survey {
	renewAbs(a)
	order(partsOf(a))
	s := &survey{scope: newScope(), free: numbers{}}
	s.through(a, s.note)
	return s
}

func (s *survey) note(t *api.Type, by *bound) {
	if by == nil {
		s.free.add(t.N)
		return
	}
	if len(by.places) == 0 {
		s.stands = append(s.stands, by)
	}
	by.places = append(by.places, t)
}

// number: gives the bound stamps that stand somewhere the least numbers that are not free, and leaves the others out.
func (s *survey) number() {
	for _, b := range s.binders {
		*b.stamps = nil
	}
	least := spare{taken: s.free}
	for _, is := range s.stands {
		n := least.number()
		*is.by.stamps = append(*is.by.stamps, n)
		for _, t := range is.places {
			t.N = n
		}
	}
}

// mark: makes the bound stamps metas 1, 2, .. , whose texts are those that bound stamps have.
func (s *survey) mark() {
	for i, is := range s.stands {
		for _, t := range is.places {
			t.Kind, t.N = api.TMeta, i+1
		}
	}
}
