package env

import (
	"iter"

	"wafer/api"
)

// member: what a structure has, of any of the five kinds.
type member interface {
	// parts: tells what there is in it; did it tell all?
	parts(tell teller) bool
	// write: writes its lines.
	write(w *writer)
}

type (
	typeMember    api.TyMember
	valMember     api.ValMember
	subMember     api.SubMember
	functorMember api.FunMember
	sigMember     api.SigMember
)

func asType(m *api.TyMember) member     { return (*typeMember)(m) }
func asVal(m *api.ValMember) member     { return (*valMember)(m) }
func asSub(m *api.SubMember) member     { return (*subMember)(m) }
func asFunctor(m *api.FunMember) member { return (*functorMember)(m) }
func asSig(m *api.SigMember) member     { return (*sigMember)(m) }

// members: those of a structure one by one, kind by kind.
func members(s *api.Str) iter.Seq[member] {
	return func(yield func(member) bool) {
		_ = each(s.Types, asType, yield) &&
			each(s.Vals, asVal, yield) &&
			each(s.Subs, asSub, yield) &&
			each(s.Funs, asFunctor, yield) &&
			each(s.Sigs, asSig, yield)
	}
}

// each: tells the members of one kind; did it tell all?
func each[M any](l []M, as func(*M) member, yield func(member) bool) bool {
	for i := range l {
		if !yield(as(&l[i])) {
			return false
		}
	}
	return true
}

// Kinds of parts.
const (
	aStructure = iota + 1 // s, ahead of its members
	aMember
	aConstructor
	aType   // t
	aBinder // stamps, which are bound in all that is told up to its end
	anEnd   // of the binder that is open and was told last
)

// part: one of the things that stand in a structure or an Abs.
type part struct {
	kind   int
	s      *api.Str
	t      *api.Type
	stamps *[]int
}

// partsOf: those of an Abs one by one, from the left.
func partsOf(a *api.Abs) iter.Seq[part] {
	return func(yield func(part) bool) { teller(yield).abs(a) }
}

// partsOfStr: the same of a structure.
func partsOfStr(s *api.Str) iter.Seq[part] {
	return func(yield func(part) bool) { teller(yield).str(s) }
}

// teller: takes parts, and answers whether to go on. It is handed all the way down: a part that stands deep costs no more than another one.
type teller func(part) bool

func (tell teller) abs(a *api.Abs) bool {
	return tell(part{kind: aBinder, stamps: &a.Stamps}) && tell.str(&a.S) && tell(part{kind: anEnd})
}

func (tell teller) str(s *api.Str) bool {
	if !tell(part{kind: aStructure, s: s}) {
		return false
	}
	for m := range members(s) {
		if !tell(part{kind: aMember}) || !m.parts(tell) {
			return false
		}
	}
	return true
}

func (tell teller) typ(t *api.Type) bool { return tell(part{kind: aType, t: t}) }

func (m *typeMember) parts(tell teller) bool {
	if !tell.typ(&m.T) {
		return false
	}
	for i := range m.Ctors {
		if !tell(part{kind: aConstructor}) {
			return false
		}
		for k := range m.Ctors[i].Args {
			if !tell.typ(&m.Ctors[i].Args[k]) {
				return false
			}
		}
	}
	return true
}

func (m *valMember) parts(tell teller) bool { return tell.typ(&m.S.T) }

func (m *subMember) parts(tell teller) bool { return tell.str(&m.S) }

func (m *functorMember) parts(tell teller) bool {
	return tell(part{kind: aBinder, stamps: &m.F.Stamps}) &&
		tell.str(&m.F.Arg) && tell.abs(&m.F.Res) &&
		tell(part{kind: anEnd})
}

func (m *sigMember) parts(tell teller) bool { return tell.abs(&m.A) }

// nodes: those of a type one by one, each ahead of its Kids.
func nodes(t *api.Type) iter.Seq[*api.Type] {
	return func(yield func(*api.Type) bool) { tellNodes(t, yield) }
}

// tellNodes: did it tell all?
func tellNodes(t *api.Type, yield func(*api.Type) bool) bool {
	if !yield(t) {
		return false
	}
	for i := range t.Kids {
		if !tellNodes(&t.Kids[i], yield) {
			return false
		}
	}
	return true
}

// count: how many nodes parts have, most + 1 as soon as they are more than most.
func count(told iter.Seq[part], most int) int {
	if most < 0 {
		return 0
	}
	n := 0
	for p := range told {
		switch p.kind {
		case aStructure, aMember, aConstructor:
			n++
		case aBinder:
			n += len(*p.stamps)
		case aType:
			n = countType(p.t, n, most)
		}
		if n > most {
			return most + 1
		}
	}
	return n
}

// countType: how many nodes there are with those of a type, up to the first one too many.
func countType(t *api.Type, n, most int) int {
	for range nodes(t) {
		n++
		if n > most {
			break
		}
	}
	return n
}
