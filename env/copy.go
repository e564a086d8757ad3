package env

import (
	"slices"

	"wafer/api"
)

// fresh: a list in new memory, in which renew lays the lists of each element anew.
func fresh[E any](l []E, renew func(*E)) []E {
	l = slices.Clone(l)
	for i := range l {
		renew(&l[i])
	}
	return l
}

func renewType(t *api.Type) { t.Kids = fresh(t.Kids, renewType) }

func renewCtor(c *api.Ctor) { c.Args = fresh(c.Args, renewType) }

func renewTyMember(m *api.TyMember) {
	renewType(&m.T)
	m.Ctors = fresh(m.Ctors, renewCtor)
}

func renewValMember(m *api.ValMember) { renewType(&m.S.T) }

func renewSubMember(m *api.SubMember) { renewStr(&m.S) }

func renewFunMember(m *api.FunMember) { renewFunctor(&m.F) }

func renewSigMember(m *api.SigMember) { renewAbs(&m.A) }

func renewStr(s *api.Str) {
	s.Types = fresh(s.Types, renewTyMember)
	s.Vals = fresh(s.Vals, renewValMember)
	s.Subs = fresh(s.Subs, renewSubMember)
	s.Funs = fresh(s.Funs, renewFunMember)
	s.Sigs = fresh(s.Sigs, renewSigMember)
}

func renewAbs(a *api.Abs) {
	a.Stamps = slices.Clone(a.Stamps)
	renewStr(&a.S)
}

func renewFunctor(f *api.Fun) {
	f.Stamps = slices.Clone(f.Stamps)
	renewStr(&f.Arg)
	renewAbs(&f.Res)
}

func renewTargetType(t *api.TT) {
	t.Labels = slices.Clone(t.Labels)
	t.Kids = fresh(t.Kids, renewTargetType)
}

func renewTerm(x *api.TM) {
	x.Labels = slices.Clone(x.Labels)
	x.Types = fresh(x.Types, renewTargetType)
	x.Kids = fresh(x.Kids, renewTerm)
}

func renewVal(v *Val) {
	renewType(&v.S.T)
	renewTerm(&v.X)
}

func renewCon(c *Con) {
	renewType(&c.T)
	c.Args = fresh(c.Args, renewType)
	c.All = fresh(c.All, renewCtor)
	renewTerm(&c.X)
	renewTerm(&c.Out)
}

func renewTyp(t *Typ) {
	renewType(&t.T)
	t.Ctors = fresh(t.Ctors, renewCtor)
}

func renewSub(s *Sub) {
	renewStr(&s.S)
	renewTerm(&s.X)
}

func renewFun(f *Fun) {
	renewFunctor(&f.F)
	renewTerm(&f.X)
}

func renewSig(s *Sig) { renewAbs(&s.A) }
