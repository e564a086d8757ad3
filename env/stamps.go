package env

import (
	"maps"
	"slices"

	"wafer/api"
)

// numbers: a set of them.
type numbers map[int]struct{}

func (s numbers) add(n int) { s[n] = struct{}{} }

func (s numbers) rising() []int { return slices.Sorted(maps.Keys(s)) }

// spare: tells the least numbers from 0 on that are not taken, one by one.
type spare struct {
	taken numbers
	next  int
}

func (s *spare) number() int {
	for {
		n := s.next
		s.next++
		if _, taken := s.taken[n]; !taken {
			return n
		}
	}
}

// str: a structure with all that the entries of an environment have, but for their terms; lists are shared.
func (e Env) str() api.Str {
	var s api.Str
	for _, v := range e.Vals {
		s.Vals = append(s.Vals, api.ValMember{S: v.S})
	}
	for _, c := range e.Cons {
		own := api.Ctor{Args: c.Args}
		s.Types = append(s.Types, api.TyMember{T: c.T, Ctors: c.All}, api.TyMember{Ctors: []api.Ctor{own}})
	}
	for _, t := range e.Typs {
		s.Types = append(s.Types, api.TyMember{T: t.T, Ctors: t.Ctors})
	}
	for _, sub := range e.Subs {
		s.Subs = append(s.Subs, api.SubMember{S: sub.S})
	}
	for _, f := range e.Funs {
		s.Funs = append(s.Funs, api.FunMember{F: f.F})
	}
	for _, g := range e.Sigs {
		s.Sigs = append(s.Sigs, api.SigMember{A: g.A})
	}
	return s
}

// binder: the Stamps of an Abs or a functor, and what they bind.
type binder struct {
	stamps *[]int
	own    []*bound
}

// bound: a stamp that is bound.
type bound struct {
	by     *binder
	n      int
	slots  []*int      // where its binder has it: once, but where a list has a number twice
	places []*api.Type // where it stands, from the left
	outer  *bound      // what its number stands for outside of its binder, nil: a free stamp
	catch  bool        // would it catch a stamp that is renamed?
}

// scope: what each stamp is bound by where a walk stands. It is kept in a map, since there may be as many binders as parts that are nested.
type scope struct {
	in      map[int]*bound
	open    []*binder
	binders []*binder // all that the walk came to, from the left
}

func newScope() *scope { return &scope{in: map[int]*bound{}} }

// through: goes through an Abs, and hands each place at which a stamp stands on, with what binds it there, nil if that is nothing.
func (s *scope) through(a *api.Abs, at func(*api.Type, *bound)) {
	for p := range partsOf(a) {
		switch p.kind {
		case aBinder:
			s.enter(p.stamps)
		case anEnd:
			s.leave()
		case aType:
			for t := range nodes(p.t) {
				if t.Kind == api.TStamp {
					at(t, s.in[t.N])
				}
			}
		}
	}
}

func (s *scope) enter(stamps *[]int) {
	b := &binder{stamps: stamps}
	for i, n := range *stamps {
		is := s.in[n]
		if is == nil || is.by != b {
			is = &bound{by: b, n: n, outer: is}
			b.own = append(b.own, is)
			s.in[n] = is
		}
		is.slots = append(is.slots, &(*stamps)[i])
	}
	s.open = append(s.open, b)
	s.binders = append(s.binders, b)
}

func (s *scope) leave() {
	last := len(s.open) - 1
	for _, is := range s.open[last].own {
		if is.outer == nil {
			delete(s.in, is.n)
		} else {
			s.in[is.n] = is.outer
		}
	}
	s.open = s.open[:last]
}

// renamer: gives free stamps other numbers, in memory that is its own.
type renamer struct {
	*scope
	to    map[int]int
	taken numbers // all numbers that stand somewhere, or come in
}

func newRenamer(from, to []int) *renamer {
	r := &renamer{scope: newScope(), to: map[int]int{}, taken: numbers{}}
	for i := range min(len(from), len(to)) {
		if _, ahead := r.to[from[i]]; !ahead {
			r.to[from[i]] = to[i]
			r.taken.add(to[i])
		}
	}
	return r
}

// rename: gives a place its number, if it is a free stamp's.
func (r *renamer) rename(t *api.Type, by *bound) {
	r.taken.add(t.N)
	if by != nil {
		by.places = append(by.places, t)
		return
	}
	n, ok := r.to[t.N]
	if !ok {
		return
	}
	t.N = n
	// All that bind the new number around this place would catch it, one within the other; what is around one that is known to catch is known, too.
	for is := r.in[n]; is != nil && !is.catch; is = is.outer {
		is.catch = true
	}
}

// release: gives the bound stamps that would catch others, which stand nowhere.
func (r *renamer) release() {
	for _, b := range r.binders {
		for _, is := range b.own {
			r.taken.add(is.n)
		}
	}
	others := spare{taken: r.taken}
	for _, b := range r.binders {
		for _, is := range b.own {
			if is.catch {
				is.become(others.number())
			}
		}
	}
}

// become: gives a bound stamp another number, where it is bound and where it stands.
func (is *bound) become(n int) {
	for _, slot := range is.slots {
		*slot = n
	}
	for _, t := range is.places {
		t.N = n
	}
}
