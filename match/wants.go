package match

import (
	"errors"
	"iter"
	"slices"

	"wafer/api"
	"wafer/renew"
	"wafer/scheme"
	"wafer/types"
)

// want: a member that is asked for, with its place, and the structure in which it is looked for, with its place there, if there is one.
type want struct {
	member
	asks, has *api.Str
	i, at     int
	there     bool
}

// wants: all that is asked, one by one, what stands at shorter paths ahead of what stands at longer ones.
func wants(has, asks *api.Str) iter.Seq[want] {
	type both struct{ has, asks *api.Str }
	return func(yield func(want) bool) {
		wait := []both{{has, asks}}
		for len(wait) > 0 {
			b := wait[0]
			wait = wait[1:]
			last := places(b.has)
			for m, i := range counted(b.asks) {
				at, there := last[m]
				w := want{m, b.asks, b.has, i, at, there}
				if !yield(w) {
					return
				}
				if m.kind == aStructure {
					wait = append(wait, both{w.within(), &b.asks.Subs[i].S})
				}
			}
		}
	}
}

// within: the structure in which the members of a substructure that is asked for are looked for: one without any, if that is not there.
func (w want) within() *api.Str {
	if !w.there {
		return &api.Str{}
	}
	return &w.has.Subs[w.at].S
}

// met: is it there, as it is asked? The members of a substructure are asked for by themselves.
func (w want) met() bool {
	if !w.there {
		return false
	}
	switch w.kind {
	case aType:
		return meets(&w.has.Types[w.at], &w.asks.Types[w.i])
	case aValue:
		return scheme.AtLeast(w.has.Vals[w.at].S, w.asks.Vals[w.i].S)
	}
	return w.kind == aStructure
}

// meets: is a type the same as the one that is asked, with the same constructors, if some are?
func meets(m, asks *api.TyMember) bool {
	return types.Same(m.T, asks.T) && (len(asks.Ctors) == 0 || slices.EqualFunc(m.Ctors, asks.Ctors, sameCtor))
}

func sameCtor(a, b api.Ctor) bool {
	return a.Name == b.Name && slices.EqualFunc(a.Args, b.Args, types.Same)
}

// lack: the name of the first thing that is asked and is not there as it is asked; of a stamp that stands nowhere there is none.
type lack struct{ name string }

func (l lack) Error() string { return "lacks " + l.name }

// told: what a call answers where this went wrong, OK of nothing.
func told(err error) api.Errno {
	var first lack
	if errors.As(err, &first) {
		return api.ErrMatch
	}
	return api.OK
}

// lacking: the first thing that is asked and that a structure lacks, nil if there is none.
func lacking(has, asks *api.Str) error {
	for w := range wants(has, asks) {
		if !w.met() {
			return lack{w.name}
		}
	}
	return nil
}

// found: the types that stand in a structure where what is asked first has these stamps, in new memory.
func found(has, asks *api.Str, stamps []int) ([]api.Type, error) {
	by := map[int]*api.Type{}
	for _, n := range stamps {
		by[n] = nil
	}
	left := len(by)
	for w := range wants(has, asks) {
		if left == 0 {
			break
		}
		n, ok := w.stamp()
		if known, looked := by[n]; !ok || !looked || known != nil {
			continue
		}
		if !w.there {
			return nil, lack{w.name}
		}
		by[n] = &w.has.Types[w.at].T
		left--
	}
	if left > 0 {
		return nil, lack{}
	}
	l := make([]api.Type, len(stamps))
	for i, n := range stamps {
		l[i] = *by[n]
		renew.Type(&l[i])
	}
	return l, nil
}

// stamp: the stamp that a type is asked to be, if it is one.
func (w want) stamp() (int, bool) {
	if w.kind != aType {
		return 0, false
	}
	t := &w.asks.Types[w.i].T
	return t.N, t.Kind == api.TStamp
}
