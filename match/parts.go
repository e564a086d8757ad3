package match

import (
	"iter"

	"wafer/api"
)

// Kinds of parts.
const (
	begins = iota + 1 // stamps are bound in all that is told up to its end
	ends              // what was begun last, and has not ended
	stands            // t
)

// part: a type in an Abs, or where what is bound begins or ends.
type part struct {
	kind   int
	t      *api.Type
	stamps []int
}

// parts: those of an Abs one by one, from the left.
func parts(a *api.Abs) iter.Seq[part] {
	return func(yield func(part) bool) { teller(yield).abs(a) }
}

// teller: takes parts, and answers whether to go on. It is handed all the way down: a part that stands deep costs no more than another one.
type teller func(part) bool

func (tell teller) abs(a *api.Abs) bool {
	return tell(part{kind: begins, stamps: a.Stamps}) && tell.str(&a.S) && tell(part{kind: ends})
}

func (tell teller) str(s *api.Str) bool {
	return all(s.Types, tell.typeMember) && all(s.Vals, tell.val) && all(s.Subs, tell.sub) && all(s.Funs, tell.functor) && all(s.Sigs, tell.signature)
}

// all: are all elements of a list told?
func all[E any](l []E, tell func(*E) bool) bool {
	for i := range l {
		if !tell(&l[i]) {
			return false
		}
	}
	return true
}

func (tell teller) typ(t *api.Type) bool { return tell(part{kind: stands, t: t}) }

func (tell teller) typeMember(m *api.TyMember) bool { return tell.typ(&m.T) && all(m.Ctors, tell.ctor) }

func (tell teller) ctor(c *api.Ctor) bool { return all(c.Args, tell.typ) }

func (tell teller) val(m *api.ValMember) bool { return tell.typ(&m.S.T) }

func (tell teller) sub(m *api.SubMember) bool { return tell.str(&m.S) }

func (tell teller) functor(m *api.FunMember) bool {
	f := &m.F
	return tell(part{kind: begins, stamps: f.Stamps}) && tell.str(&f.Arg) && tell.abs(&f.Res) && tell(part{kind: ends})
}

func (tell teller) signature(m *api.SigMember) bool { return tell.abs(&m.A) }
