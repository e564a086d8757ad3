package modules

import (
	"wafer/api"
	"wafer/env"
	"wafer/renew"
)

// renewed: an environment in new memory.
func renewed(e env.Env) env.Env {
	return env.Env{
		Vals: renew.List(e.Vals, func(v *env.Val) {
			renew.Type(&v.S.T)
			renew.Shared(&v.X)
		}),
		Cons: renew.List(e.Cons, renewCon),
		Typs: renew.List(e.Typs, func(t *env.Typ) {
			renew.Type(&t.T)
			t.Ctors = renew.List(t.Ctors, renewCtor)
		}),
		Subs: renew.List(e.Subs, func(s *env.Sub) {
			renewStr(&s.S)
			renew.Shared(&s.X)
		}),
		Funs: renew.List(e.Funs, func(f *env.Fun) {
			in := api.Str{Funs: []api.FunMember{{F: f.F}}}
			renewStr(&in)
			f.F = in.Funs[0].F
			renew.Shared(&f.X)
		}),
		Sigs: renew.List(e.Sigs, func(s *env.Sig) { s.A = env.Rename(s.A, nil, nil) }),
	}
}

func renewCon(c *env.Con) {
	renew.Type(&c.T)
	c.Args = renew.List(c.Args, renew.Type)
	c.All = renew.List(c.All, renewCtor)
	renew.Shared(&c.X)
	renew.Shared(&c.Out)
}

func renewCtor(c *api.Ctor) { c.Args = renew.List(c.Args, renew.Type) }

// renewStr: a structure in which nothing is renamed is laid anew.
func renewStr(s *api.Str) { *s = env.Rename(api.Abs{S: *s}, nil, nil).S }
