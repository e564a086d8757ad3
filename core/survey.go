package core

import (
	"wafer/api"
	"wafer/env"
	"wafer/names"
)

// survey: what is asked of a declaration ahead of all types.
type survey struct {
	env                   *env.Env
	around                scope[struct{}]
	twice, unbound, tyvar bool
}

// surveyed: ErrTwice, if a pattern or a DFun of a right declaration binds a name twice; ErrUnbound, if a path is not there; ErrTyvar, if a type that is written has a type variable.
func surveyed(e *env.Env, d *api.Dec) api.Errno {
	s := survey{env: e, around: newScope[struct{}]()}
	s.dec(d)
	switch {
	case s.twice:
		return api.ErrTwice
	case s.unbound:
		return api.ErrUnbound
	case s.tyvar:
		return api.ErrTyvar
	}
	return api.OK
}

// dec: goes through a declaration, whose name is bound behind it alone.
func (s *survey) dec(d *api.Dec) {
	s.written(d.Tys)
	around := s.around.count()
	if d.Kind == api.DFun {
		s.bind(append([]string{d.Name}, d.Params...)...)
	}
	s.exp(&d.Exps[0])
	s.around.leave(around)
}

// bind: binds names of one place, each of which may stand there but once.
func (s *survey) bind(l ...string) {
	s.twice = s.twice || len(names.Set(l)) < len(l)
	for _, name := range l {
		s.around.bind(name, struct{}{})
	}
}

func (s *survey) exp(x *api.Exp) {
	around := s.around.count()
	switch x.Kind {
	case api.EVar:
		s.value(x.Path)
	case api.ECon:
		_, err := s.env.Con(x.Path)
		s.found(err)
	case api.ECase:
		s.exp(&x.Kids[0])
		for i := range x.Pats {
			s.under(&x.Pats[i], &x.Kids[i+1])
		}
	case api.EFn:
		s.under(&x.Pats[0], &x.Kids[0])
	default:
		for i := range x.Decs {
			s.dec(&x.Decs[i])
			s.around.bind(x.Decs[i].Name, struct{}{})
		}
		for i := range x.Kids {
			s.exp(&x.Kids[i])
		}
		s.written(x.Tys)
	}
	s.around.leave(around)
}

// under: goes through a pattern, and an expression in which its names are bound.
func (s *survey) under(p *api.Pat, x *api.Exp) {
	around := s.around.count()
	s.bind(s.pat(p)...)
	s.exp(x)
	s.around.leave(around)
}

// pat: goes through a pattern, and tells the names that it binds, each as often as it does.
func (s *survey) pat(p *api.Pat) []string {
	var l []string
	switch p.Kind {
	case api.PVar:
		l = append(l, p.Name)
	case api.PCon:
		_, err := s.env.Con(p.Path)
		s.found(err)
	}
	for i := range p.Kids {
		l = append(l, s.pat(&p.Kids[i])...)
	}
	return l
}

// value: looks for what the path of an EVar stands for.
func (s *survey) value(path []string) {
	if len(path) == 1 {
		if _, ok := s.around.nearest(path[0]); ok {
			return
		}
	}
	_, err := s.env.Val(path)
	s.found(err)
}

func (s *survey) written(l []api.Ty) {
	for _, t := range l {
		_, err := s.env.Type(t)
		s.found(err)
		s.tyvar = s.tyvar || err == api.ErrTyvar
	}
}

// found: keeps whether something that was looked for was not there.
func (s *survey) found(err api.Errno) { s.unbound = s.unbound || err == api.ErrUnbound }
