package scheme_test

import (
	"slices"

	"wafer/api"
)

// What follows answers by the chapter's words alone, as plainly as can be, for small types.

// line: the nodes of a type in one list, each ahead of its Kids.
func line(x api.Type) []api.Type {
	l := []api.Type{x}
	for _, kid := range x.Kids {
		l = append(l, line(kid)...)
	}
	return l
}

// firsts: the numbers of one kind in a type, each at its first place.
func firsts(x api.Type, kind int) []int {
	var l []int
	for _, y := range line(x) {
		if y.Kind == kind && !slices.Contains(l, y.N) {
			l = append(l, y.N)
		}
	}
	return l
}

// changed: a type with another Kind and N for each node.
func changed(x api.Type, by func(kind, n int) (int, int)) api.Type {
	y := api.Type{}
	y.Kind, y.N = by(x.Kind, x.N)
	for _, kid := range x.Kids {
		y.Kids = append(y.Kids, changed(kid, by))
	}
	return y
}

func plainCanonical(s api.Scheme) api.Scheme {
	l := firsts(s.T, api.TGen)
	return of(len(l), changed(s.T, func(kind, n int) (int, int) {
		if kind == api.TGen {
			return kind, slices.Index(l, n)
		}
		return kind, n
	}))
}

func plainGeneralise(x api.Type, keep []int) api.Scheme {
	var metas []int
	for _, n := range firsts(x, api.TMeta) {
		if !slices.Contains(keep, n) {
			metas = append(metas, n)
		}
	}
	own := firsts(x, api.TGen)
	return of(len(metas)+len(own), changed(x, func(kind, n int) (int, int) {
		switch {
		case kind == api.TMeta && slices.Contains(metas, n):
			return api.TGen, slices.Index(metas, n)
		case kind == api.TGen:
			return api.TGen, len(metas) + slices.Index(own, n)
		}
		return kind, n
	}))
}

// plainRight: is it a right type by itself, and all through?
func plainRight(x api.Type) bool {
	for _, y := range line(x) {
		switch y.Kind {
		case api.TInt, api.TBool, api.TUnit:
			if y.N != 0 || len(y.Kids) != 0 {
				return false
			}
		case api.TFn, api.TPair:
			if y.N != 0 || len(y.Kids) != 2 {
				return false
			}
		case api.TStamp, api.TMeta, api.TGen:
			if y.N < 0 || len(y.Kids) != 0 {
				return false
			}
		default:
			return false
		}
	}
	return true
}

// plainRightScheme: a scheme is right if its type is, and it is its own canonical form.
func plainRightScheme(s api.Scheme) bool {
	return plainRight(s.T) && tellScheme(plainCanonical(s)) == tellScheme(s)
}

// putIn: a right type with others in place of its TGen.
func putIn(x api.Type, by []api.Type) api.Type {
	if x.Kind == api.TGen {
		return by[x.N]
	}
	y := api.Type{Kind: x.Kind, N: x.N}
	for _, kid := range x.Kids {
		y.Kids = append(y.Kids, putIn(kid, by))
	}
	return y
}

func plainInstantiate(s api.Scheme, next int) (api.Type, int, api.Errno) {
	if !plainRightScheme(s) || next < 0 || next > 1<<31-1 {
		return api.Type{}, 0, api.ErrArg
	}
	var by []api.Type
	for i := range s.Gens {
		by = append(by, meta(next+i))
	}
	return putIn(s.T, by), next + s.Gens, api.OK
}

func plainInstance(s api.Scheme, l []api.Type) (api.Type, api.Errno) {
	if !plainRightScheme(s) || len(l) != s.Gens {
		return api.Type{}, api.ErrArg
	}
	x := putIn(s.T, l)
	if len(line(x)) > api.MaxType {
		return api.Type{}, api.ErrBig
	}
	return x, api.OK
}

// plainMatch: tries all parts of b for each TGen of a: nothing else can be, since each stands in a.
func plainMatch(a, b api.Scheme) ([]api.Type, bool) {
	if !plainRightScheme(a) || !plainRightScheme(b) {
		return nil, false
	}
	var parts []api.Type
	for _, x := range line(b.T) {
		if !slices.ContainsFunc(parts, func(y api.Type) bool { return tell(y) == tell(x) }) {
			parts = append(parts, x)
		}
	}
	return tried(a, tell(b.T), parts, nil)
}

// tried: the first choice of parts, behind those that are chosen already, with which a becomes what is told.
func tried(a api.Scheme, want string, parts, by []api.Type) ([]api.Type, bool) {
	if len(by) == a.Gens {
		return by, tell(putIn(a.T, by)) == want
	}
	for _, x := range parts {
		if l, ok := tried(a, want, parts, append(slices.Clip(by), x)); ok {
			return l, true
		}
	}
	return nil, false
}
