package sigs

import (
	"slices"

	"wafer/api"
	"wafer/env"
)

// kinds: how many numbers there are up to the last kind of specifications.
const kinds = api.CStr + 1

// rule: what a right specification of one kind adds to a body, or its error.
type rule func(*body, *api.Spec) api.Errno

func rulesByKind() [kinds]rule {
	return [kinds]rule{
		api.CVal:  (*body).val,
		api.CType: (*body).typ,
		api.CData: (*body).data,
		api.CStr:  (*body).structure,
	}
}

// elaborator: one call of Elab, for a right signature expression.
type elaborator struct {
	env   env.Env // with what the specifications ahead have, in lists of its own
	next  int     // the number of the next new stamp
	rules [kinds]rule
}

func newElaborator(e env.Env, next int) *elaborator {
	e.Typs, e.Subs = slices.Clip(e.Typs), slices.Clip(e.Subs)
	return &elaborator{env: e, next: next, rules: rulesByKind()}
}

// sig: what a signature expression means, with lists that may be shared.
func (l *elaborator) sig(g *api.Sig) (api.Abs, api.Errno) {
	switch g.Kind {
	case api.SPath:
		return l.named(g.Path)
	case api.SWhere:
		return l.where(g)
	}
	return l.specified(g.Specs)
}

func (l *elaborator) named(path []string) (api.Abs, api.Errno) {
	found, err := l.env.Sig(path)
	if err != api.OK {
		return api.Abs{}, err
	}
	a, next := Fresh(found.A, l.next)
	l.next = next
	return a, api.OK
}

func (l *elaborator) where(g *api.Sig) (api.Abs, api.Errno) {
	a, err := l.sig(&g.Sigs[0])
	if err != api.OK {
		return api.Abs{}, err
	}
	t, err := l.env.Type(g.Tys[0])
	if err != api.OK {
		return api.Abs{}, err
	}
	return Where(a, g.Path, t)
}

// specified: what specifications mean, one behind the other. With an error the elaborator is of no more use.
func (l *elaborator) specified(specs []api.Spec) (api.Abs, api.Errno) {
	b := body{elaborator: l, values: claimed{}, types: claimed{}, structures: claimed{}}
	typs, subs := len(l.env.Typs), len(l.env.Subs)
	for i := range specs {
		if err := b.spec(&specs[i]); err != api.OK {
			return api.Abs{}, err
		}
	}
	l.env.Typs, l.env.Subs = l.env.Typs[:typs], l.env.Subs[:subs]
	return b.is, api.OK
}

// claimed: the names of one sort that stand in a signature.
type claimed map[string]struct{}

// claim: takes names, as long as none stands there already; does none?
func (c claimed) claim(l ...string) bool {
	for _, name := range l {
		if _, ok := c[name]; ok {
			return false
		}
		c[name] = struct{}{}
	}
	return true
}

// body: what the specifications of one signature have come to so far.
type body struct {
	*elaborator
	values, types, structures claimed
	is                        api.Abs
}

func (b *body) spec(s *api.Spec) api.Errno {
	if err := b.rules[s.Kind](b, s); err != api.OK {
		return err
	}
	if env.Size(b.is.S, api.MaxStr) > api.MaxStr {
		return api.ErrBig
	}
	return api.OK
}

func (b *body) val(s *api.Spec) api.Errno {
	if !b.values.claim(s.Name) {
		return api.ErrTwice
	}
	is, err := b.env.Scheme(s.Tys[0])
	if err != api.OK {
		return err
	}
	b.is.S.Vals = append(b.is.S.Vals, api.ValMember{Name: s.Name, S: is})
	return api.OK
}

func (b *body) typ(s *api.Spec) api.Errno {
	if !b.types.claim(s.Name) {
		return api.ErrTwice
	}
	if len(s.Tys) == 0 {
		b.add(api.TyMember{Name: s.Name, T: b.stamp()})
		return api.OK
	}
	t, err := b.env.Type(s.Tys[0])
	if err != api.OK {
		return err
	}
	b.add(api.TyMember{Name: s.Name, T: t})
	return api.OK
}

func (b *body) data(s *api.Spec) api.Errno {
	cons := make([]string, len(s.Cons))
	for i, c := range s.Cons {
		cons[i] = c.Name
	}
	if !b.types.claim(s.Name) || !b.values.claim(cons...) {
		return api.ErrTwice
	}
	t := b.stamp()
	b.env.Typs = append(b.env.Typs, env.Typ{Name: s.Name, T: t})
	m, err := Data(b.env, s.Name, s.Cons, t.N)
	if err != api.OK {
		return err
	}
	b.add(m)
	return api.OK
}

func (b *body) structure(s *api.Spec) api.Errno {
	if !b.structures.claim(s.Name) {
		return api.ErrTwice
	}
	a, err := b.sig(&s.Sigs[0])
	if err != api.OK {
		return err
	}
	b.is.Stamps = append(b.is.Stamps, a.Stamps...)
	b.is.S.Subs = append(b.is.S.Subs, api.SubMember{Name: s.Name, S: a.S})
	b.env.Subs = append(b.env.Subs, env.Sub{Name: s.Name, S: a.S})
	return api.OK
}

// stamp: a new one, which the signature binds.
func (b *body) stamp() api.Type {
	n := b.next
	b.next++
	b.is.Stamps = append(b.is.Stamps, n)
	return stamped(n)
}

// add: the signature has a type, and what comes behind sees it.
func (b *body) add(m api.TyMember) {
	b.is.S.Types = append(b.is.S.Types, m)
	b.env.Typs = append(b.env.Typs, env.Typ{Name: m.Name, T: m.T, Ctors: m.Ctors})
}
