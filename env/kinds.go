package env

import (
	"iter"

	"wafer/api"
	"wafer/names"
)

// selected: what stands under a label in the record that a term comes to.
func selected(label string, x api.TM) api.TM {
	return api.TM{Kind: api.XSel, Name: label, Kids: []api.TM{x}}
}

func vals(e *Env) finder[Val, *api.ValMember] {
	return finder[Val, *api.ValMember]{
		entries: backward(e.Vals, func(v *Val) string { return v.Name }),
		members: func(s *api.Str) iter.Seq2[string, *api.ValMember] {
			return backward(s.Vals, func(m *api.ValMember) string { return m.Name })
		},
		entry: func(m *api.ValMember, x api.TM) Val {
			return Val{Name: m.Name, S: m.S, X: selected(m.Name, x)}
		},
		renew: renewVal,
	}
}

// constructor: number n of those of a type in a structure.
type constructor struct {
	of *api.TyMember
	n  int
}

// constructors: those of a structure, of the last type on.
func constructors(s *api.Str) iter.Seq2[string, constructor] {
	return func(yield func(string, constructor) bool) {
		for i := len(s.Types) - 1; i >= 0; i-- {
			of := &s.Types[i]
			for n := len(of.Ctors) - 1; n >= 0; n-- {
				if !yield(of.Ctors[n].Name, constructor{of, n}) {
					return
				}
			}
		}
	}
}

func cons(e *Env) finder[Con, constructor] {
	return finder[Con, constructor]{
		entries: backward(e.Cons, func(c *Con) string { return c.Name }),
		members: constructors,
		entry: func(m constructor, x api.TM) Con {
			own := m.of.Ctors[m.n]
			return Con{
				Name: own.Name, T: m.of.T, Args: own.Args, N: m.n, All: m.of.Ctors,
				X: selected(names.Con(own.Name), x), Out: selected(names.Out(m.of.Name), x),
			}
		},
		renew: renewCon,
	}
}

func typs(e *Env) finder[Typ, *api.TyMember] {
	return finder[Typ, *api.TyMember]{
		entries: backward(e.Typs, func(t *Typ) string { return t.Name }),
		members: func(s *api.Str) iter.Seq2[string, *api.TyMember] {
			return backward(s.Types, func(m *api.TyMember) string { return m.Name })
		},
		entry: func(m *api.TyMember, _ api.TM) Typ { return Typ{Name: m.Name, T: m.T, Ctors: m.Ctors} },
		renew: renewTyp,
	}
}

func subs(e *Env) finder[Sub, *api.SubMember] {
	return finder[Sub, *api.SubMember]{
		entries: backward(e.Subs, func(s *Sub) string { return s.Name }),
		members: func(s *api.Str) iter.Seq2[string, *api.SubMember] {
			return backward(s.Subs, func(m *api.SubMember) string { return m.Name })
		},
		entry: func(m *api.SubMember, x api.TM) Sub {
			return Sub{Name: m.Name, S: m.S, X: selected(m.Name, x)}
		},
		renew: renewSub,
	}
}

func funs(e *Env) finder[Fun, *api.FunMember] {
	return finder[Fun, *api.FunMember]{
		entries: backward(e.Funs, func(f *Fun) string { return f.Name }),
		members: func(s *api.Str) iter.Seq2[string, *api.FunMember] {
			return backward(s.Funs, func(m *api.FunMember) string { return m.Name })
		},
		entry: func(m *api.FunMember, x api.TM) Fun {
			return Fun{Name: m.Name, F: m.F, X: selected(m.Name, x)}
		},
		renew: renewFun,
	}
}

func sigs(e *Env) finder[Sig, *api.SigMember] {
	return finder[Sig, *api.SigMember]{
		entries: backward(e.Sigs, func(s *Sig) string { return s.Name }),
		members: func(s *api.Str) iter.Seq2[string, *api.SigMember] {
			return backward(s.Sigs, func(m *api.SigMember) string { return m.Name })
		},
		entry: func(m *api.SigMember, _ api.TM) Sig { return Sig{Name: m.Name, A: m.A} },
		renew: renewSig,
	}
}
