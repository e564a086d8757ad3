package sigs

import (
	"slices"

	"wafer/api"
	"wafer/env"
	"wafer/types"
)

// open: the stamp at a path, for which a type may stand; or ErrUnbound or ErrWhere.
func open(a *api.Abs, path []string) (int, api.Errno) {
	// A name in which the structure stands, so that its types are found at paths.
	in := env.Env{Subs: []env.Sub{{S: a.S}}}
	found, err := in.Typ(append([]string{""}, path...))
	if err != api.OK {
		return 0, err
	}
	n := found.T.N
	if found.T.Kind != api.TStamp || !slices.Contains(a.Stamps, n) || isData(&a.S, n) {
		return 0, api.ErrWhere
	}
	return n, api.OK
}

// isData: is a stamp that of a datatype, anywhere in a structure?
func isData(s *api.Str, n int) bool {
	for i := range s.Types {
		m := &s.Types[i]
		if len(m.Ctors) > 0 && m.T.Kind == api.TStamp && m.T.N == n {
			return true
		}
	}
	for i := range s.Subs {
		if isData(&s.Subs[i].S, n) {
			return true
		}
	}
	return false
}

// filled: the Abs with a type in place of a stamp of its own, in new memory; or ErrBig.
func filled(a api.Abs, n int, t api.Type) (api.Abs, api.Errno) {
	a = env.Rename(a, nil, nil)
	f := filler{from: []int{n}, to: []api.Type{t}, room: api.MaxStr}
	if !f.str(&a.S) || env.Size(a.S, api.MaxStr) > api.MaxStr {
		return api.Abs{}, api.ErrBig
	}
	a.Stamps = slices.DeleteFunc(a.Stamps, func(own int) bool { return own == n })
	return a, api.OK
}

// filler: puts a type in place of a stamp, in a structure that is its own.
type filler struct {
	from []int
	to   []api.Type
	room int // so many nodes may the types have that are still to come: more than that would be too much for any structure
}

// str: puts it in all through a structure; did all have room?
func (f *filler) str(s *api.Str) bool {
	for i := range s.Types {
		if !f.member(&s.Types[i]) {
			return false
		}
	}
	for i := range s.Vals {
		if !f.typ(&s.Vals[i].S.T) {
			return false
		}
	}
	for i := range s.Subs {
		if !f.str(&s.Subs[i].S) {
			return false
		}
	}
	return true
}

func (f *filler) member(m *api.TyMember) bool {
	if !f.typ(&m.T) {
		return false
	}
	for _, c := range m.Ctors {
		for i := range c.Args {
			if !f.typ(&c.Args[i]) {
				return false
			}
		}
	}
	return true
}

func (f *filler) typ(t *api.Type) bool {
	is, err := types.Replace(*t, api.TStamp, f.from, f.to)
	if err != api.OK {
		return false
	}
	*t = is
	f.room -= types.Size(is)
	return f.room >= 0
}
