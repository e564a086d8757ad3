package env

import (
	"slices"

	"wafer/api"
	"wafer/renew"
)

func renewCtor(c *api.Ctor) { c.Args = renew.List(c.Args, renew.Type) }

func renewTyMember(m *api.TyMember) {
	renew.Type(&m.T)
	m.Ctors = renew.List(m.Ctors, renewCtor)
}

func renewValMember(m *api.ValMember) { renew.Type(&m.S.T) }

func renewSubMember(m *api.SubMember) { renewStr(&m.S) }

func renewFunMember(m *api.FunMember) { renewFunctor(&m.F) }

func renewSigMember(m *api.SigMember) { renewAbs(&m.A) }

func renewStr(s *api.Str) {
	s.Types = renew.List(s.Types, renewTyMember)
	s.Vals = renew.List(s.Vals, renewValMember)
	s.Subs = renew.List(s.Subs, renewSubMember)
	s.Funs = renew.List(s.Funs, renewFunMember)
	s.Sigs = renew.List(s.Sigs, renewSigMember)
}

func renewAbs(a *api.Abs) {
	a.Stamps = slices.Clone(a.Stamps)
	renewStr(&a.S)
}

func renewFunctor(f *api.Fun) {
	f.Stamps = slices.Clone(f.Stamps)
	renewStr(&f.Arg)
	renewAbs(&f.Res)
}

func renewVal(v *Val) {
	renew.Type(&v.S.T)
	renew.Term(&v.X)
}

func renewCon(c *Con) {
	renew.Type(&c.T)
	c.Args = renew.List(c.Args, renew.Type)
	c.All = renew.List(c.All, renewCtor)
	renew.Term(&c.X)
	renew.Term(&c.Out)
}

func renewTyp(t *Typ) {
	renew.Type(&t.T)
	t.Ctors = renew.List(t.Ctors, renewCtor)
}

func renewSub(s *Sub) {
	renewStr(&s.S)
	renew.Term(&s.X)
}

func renewFun(f *Fun) {
	renewFunctor(&f.F)
	renew.Term(&f.X)
}

func renewSig(s *Sig) { renewAbs(&s.A) }
