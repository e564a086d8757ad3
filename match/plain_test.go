package match_test

import (
	"slices"

	"wafer/api"
	"wafer/types"
)

// What follows answers by the chapter's words alone, as plainly as can be, for small structures.

// last: the last one of a name, and is there one?
func last[M any](l []M, name string, of func(M) string) (M, bool) {
	for _, m := range slices.Backward(l) {
		if of(m) == name {
			return m, true
		}
	}
	var none M
	return none, false
}

func typeName(m api.TyMember) string { return m.Name }

func valName(m api.ValMember) string { return m.Name }

func subName(m api.SubMember) string { return m.Name }

// lasts: those of a list behind which no other one of their name stands.
func lasts[M any](l []M, of func(M) string) []M {
	var out []M
	for i, m := range l {
		if !slices.ContainsFunc(l[i+1:], func(later M) bool { return of(later) == of(m) }) {
			out = append(out, m)
		}
	}
	return out
}

// place: a path, and the type that is asked there.
type place struct {
	path []string
	t    api.Type
}

// typePaths: all types that are asked, as they stand: the structure's own ones, then those of each of its Subs.
func typePaths(s api.Str, ahead []string) []place {
	var l []place
	for _, m := range lasts(s.Types, typeName) {
		l = append(l, place{append(slices.Clone(ahead), m.Name), m.T})
	}
	for _, m := range lasts(s.Subs, subName) {
		l = append(l, typePaths(m.S, append(slices.Clone(ahead), m.Name))...)
	}
	return l
}

// typeAt: the type that a structure has at a path.
func typeAt(s api.Str, path []string) (api.Type, bool) {
	for ; len(path) > 1; path = path[1:] {
		m, ok := last(s.Subs, path[0], subName)
		if !ok {
			return api.Type{}, false
		}
		s = m.S
	}
	m, ok := last(s.Types, path[0], typeName)
	return m.T, ok
}

func plainTypes(has, asks api.Str, stamps []int) ([]api.Type, api.Errno) {
	at := typePaths(asks, nil)
	slices.SortStableFunc(at, func(a, b place) int { return len(a.path) - len(b.path) })
	var l []api.Type
	for _, n := range stamps {
		i := slices.IndexFunc(at, func(p place) bool { return p.t.Kind == api.TStamp && p.t.N == n })
		if i < 0 {
			return nil, api.ErrMatch
		}
		t, ok := typeAt(has, at[i].path)
		if !ok {
			return nil, api.ErrMatch
		}
		l = append(l, t)
	}
	return l, api.OK
}

func plainHas(has, asks api.Str) bool {
	for _, m := range lasts(asks.Types, typeName) {
		own, ok := last(has.Types, m.Name, typeName)
		if !ok || tell(own.T) != tell(m.T) || len(m.Ctors) > 0 && tell(own.Ctors) != tell(m.Ctors) {
			return false
		}
	}
	for _, m := range lasts(asks.Vals, valName) {
		own, ok := last(has.Vals, m.Name, valName)
		if !ok || !plainAtLeast(own.S, m.S) {
			return false
		}
	}
	for _, m := range lasts(asks.Subs, subName) {
		own, ok := last(has.Subs, m.Name, subName)
		if !ok || !plainHas(own.S, m.S) {
			return false
		}
	}
	return len(asks.Funs)+len(asks.Sigs) == 0
}

// plainAtLeast: chapter 12's words: is there a type for each TGen with which the one's type becomes the other's?
func plainAtLeast(a, b api.Scheme) bool {
	if !types.RightScheme(a) || !types.RightScheme(b) {
		return false
	}
	by := map[int]string{}
	var fits func(t, u api.Type) bool
	fits = func(t, u api.Type) bool {
		if t.Kind == api.TGen {
			if is, ok := by[t.N]; ok {
				return is == tell(u)
			}
			by[t.N] = tell(u)
			return true
		}
		if t.Kind != u.Kind || t.N != u.N || len(t.Kids) != len(u.Kids) {
			return false
		}
		for i := range t.Kids {
			if !fits(t.Kids[i], u.Kids[i]) {
				return false
			}
		}
		return true
	}
	return fits(a.T, b.T)
}

// newNumber: what binders get where the plain putter gives others: so much, and one more for each.
const newNumber = 1 << 40

// plainPutter: puts in, and gives every binder other numbers.
type plainPutter struct {
	next int
	big  bool
}

// put: a type with others in place of stamps, by a list in which the first one that fits counts.
func (p *plainPutter) put(t api.Type, stamps []int, l []api.Type) api.Type {
	t = putIn(t, stamps, l)
	p.big = p.big || nodes(t) > api.MaxType
	return t
}

func putIn(t api.Type, stamps []int, l []api.Type) api.Type {
	u := api.Type{Kind: t.Kind, N: t.N}
	if i := slices.Index(stamps, t.N); t.Kind == api.TStamp && i >= 0 {
		if l[i].N < newNumber || l[i].N >= newNumber<<1 {
			return l[i]
		}
		// Another number of what is bound; what stands below it in what is not right stays.
		u.N = l[i].N
	}
	for _, k := range t.Kids {
		u.Kids = append(u.Kids, putIn(k, stamps, l))
	}
	return u
}

func nodes(t api.Type) int {
	n := 1
	for _, k := range t.Kids {
		n += nodes(k)
	}
	return n
}

// bound: other numbers for what is bound here, and what is put in within: they stand ahead.
func (p *plainPutter) bound(own, stamps []int, l []api.Type) ([]int, []int, []api.Type) {
	var others []int
	var by []api.Type
	for i, n := range own {
		if first := slices.Index(own, n); first < i {
			others = append(others, others[first])
		} else {
			others = append(others, newNumber+p.next)
			p.next++
		}
		by = append(by, stamp(others[i]))
	}
	return others, slices.Concat(own, stamps), slices.Concat(by, l)
}

func (p *plainPutter) abs(a api.Abs, stamps []int, l []api.Type) api.Abs {
	others, stamps, l := p.bound(a.Stamps, stamps, l)
	return api.Abs{Stamps: others, S: p.str(a.S, stamps, l)}
}

func (p *plainPutter) str(s api.Str, stamps []int, l []api.Type) api.Str {
	var out api.Str
	for _, m := range s.Types {
		one := typ(m.Name, p.put(m.T, stamps, l))
		for _, c := range m.Ctors {
			two := ctor(c.Name)
			for _, t := range c.Args {
				two.Args = append(two.Args, p.put(t, stamps, l))
			}
			one.Ctors = append(one.Ctors, two)
		}
		out.Types = append(out.Types, one)
	}
	for _, m := range s.Vals {
		out.Vals = append(out.Vals, poly(m.Name, m.S.Gens, p.put(m.S.T, stamps, l)))
	}
	for _, m := range s.Subs {
		out.Subs = append(out.Subs, api.SubMember{Name: m.Name, S: p.str(m.S, stamps, l)})
	}
	for _, m := range s.Funs {
		others, stamps, l := p.bound(m.F.Stamps, stamps, l)
		out.Funs = append(out.Funs, functor(m.Name, others, p.str(m.F.Arg, stamps, l), p.abs(m.F.Res, stamps, l)))
	}
	for _, m := range s.Sigs {
		out.Sigs = append(out.Sigs, api.SigMember{Name: m.Name, A: p.abs(m.A, stamps, l)})
	}
	return out
}

// sizeOf: chapter 13's count.
func sizeOf(s api.Str) int {
	n := 1
	for _, m := range s.Types {
		n += 1 + nodes(m.T)
		for _, c := range m.Ctors {
			n++
			for _, t := range c.Args {
				n += nodes(t)
			}
		}
	}
	for _, m := range s.Vals {
		n += 1 + nodes(m.S.T)
	}
	for _, m := range s.Subs {
		n += 1 + sizeOf(m.S)
	}
	for _, m := range s.Funs {
		n += 1 + len(m.F.Stamps) + sizeOf(m.F.Arg) + len(m.F.Res.Stamps) + sizeOf(m.F.Res.S)
	}
	for _, m := range s.Sigs {
		n += 1 + len(m.A.Stamps) + sizeOf(m.A.S)
	}
	return n
}

// hasGen: does a TGen stand in a type?
func hasGen(t api.Type) bool { return t.Kind == api.TGen || slices.ContainsFunc(t.Kids, hasGen) }

func plainPutAbs(a api.Abs, stamps []int, l []api.Type) (api.Abs, api.Errno) {
	if len(stamps) != len(l) || slices.ContainsFunc(l, hasGen) {
		return api.Abs{}, api.ErrArg
	}
	p := &plainPutter{}
	a = p.abs(a, stamps, l)
	if p.big || len(a.Stamps)+sizeOf(a.S) > api.MaxStr {
		return api.Abs{}, api.ErrBig
	}
	return a, api.OK
}

func plainPut(s api.Str, stamps []int, l []api.Type) (api.Str, api.Errno) {
	a, err := plainPutAbs(api.Abs{S: s}, stamps, l)
	return a.S, err
}

func plainMatch(has api.Str, a api.Abs) ([]api.Type, api.Errno) {
	l, err := plainTypes(has, a.S, a.Stamps)
	if err != api.OK {
		return nil, err
	}
	asks, err := plainPut(a.S, a.Stamps, l)
	if err != api.OK {
		return nil, err
	}
	if !plainHas(has, asks) {
		return nil, api.ErrMatch
	}
	return l, api.OK
}

// hiddenData: does a type hide a datatype of its name? Then the target has things of what is not there by any name.
func hiddenData(s api.Str) bool {
	for i, m := range s.Types {
		if len(m.Ctors) > 0 && slices.ContainsFunc(s.Types[i+1:], func(later api.TyMember) bool { return later.Name == m.Name }) {
			return true
		}
	}
	return slices.ContainsFunc(s.Subs, func(m api.SubMember) bool { return hiddenData(m.S) })
}

// plainCanonical: a scheme that leaves open what stands as TGen in a type, numbered as they first stand.
func plainCanonical(t api.Type) api.Scheme {
	var order []int
	var renumber func(t api.Type) api.Type
	renumber = func(t api.Type) api.Type {
		if t.Kind == api.TGen {
			if !slices.Contains(order, t.N) {
				order = append(order, t.N)
			}
			return api.Type{Kind: api.TGen, N: slices.Index(order, t.N)}
		}
		u := api.Type{Kind: t.Kind, N: t.N}
		for _, k := range t.Kids {
			u.Kids = append(u.Kids, renumber(k))
		}
		return u
	}
	t = renumber(t)
	return api.Scheme{Gens: len(order), T: t}
}
