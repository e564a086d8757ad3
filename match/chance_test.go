package match_test

import (
	"math/rand"
	"slices"
	"strconv"
	"strings"

	"wafer/api"
	"wafer/scheme"
)

// chosen: one of a list, by chance.
func chosen[E any](r *rand.Rand, l []E) E { return l[r.Intn(len(l))] }

// maker: makes structures by chance. Few names and stamps stand in them, so that much is there twice, bound by several, and free.
type maker struct {
	*rand.Rand
	wild  bool // not only what is right
	twice bool // names may stand several times in a list
	most  int  // numbers of stamps are below it
	names int  // so many names of a kind
}

func newMaker(seed int64) maker {
	r := rand.New(rand.NewSource(seed))
	return maker{r, seed%4 == 3, seed%2 == 1, 2 + r.Intn(7), 2 + r.Intn(3)}
}

func (m maker) low() string {
	if m.wild && m.Intn(30) == 0 {
		return chosen(m.Rand, []string{"", "int", "\n", "A", "out t", "t.u", "A()", strings.Repeat("x", 40)})
	}
	return chosen(m.Rand, []string{"t", "u", "x", "a1", "b"}[:m.names])
}

func (m maker) high() string {
	if m.wild && m.Intn(30) == 0 {
		return chosen(m.Rand, []string{"", "M.N", "t", "()", "C()", strings.Repeat("X", 40)})
	}
	return chosen(m.Rand, []string{"M", "N", "C", "A1", "B"}[:m.names])
}

func (m maker) stampNumber() int {
	if m.wild && m.Intn(25) == 0 {
		return chosen(m.Rand, edges())
	}
	return m.Intn(m.most)
}

// typeOf: a type, nested at most so deep; its TGen are below gens.
func (m maker) typeOf(depth, gens int) api.Type {
	if m.wild && m.Intn(12) == 0 {
		t := node(m.Intn(11)-1, m.stampNumber())
		for depth > 1 && m.Intn(3) > 0 {
			t.Kids = append(t.Kids, m.typeOf(depth-1, gens))
		}
		return t
	}
	if depth > 1 && m.Intn(3) == 0 {
		return node(chosen(m.Rand, ints(api.TFn, api.TPair)), 0, m.typeOf(depth-1, gens), m.typeOf(depth-1, gens))
	}
	if gens > 0 && m.Intn(3) == 0 {
		return gen(m.Intn(gens))
	}
	return chosen(m.Rand, []api.Type{integer(), boolean(), unit(), stamp(m.stampNumber()), stamp(m.stampNumber()), stamp(m.stampNumber()), stamp(m.stampNumber())})
}

func (m maker) types(count, depth int) []api.Type {
	var l []api.Type
	for range count {
		l = append(l, m.typeOf(depth, 0))
	}
	return l
}

func (m maker) scheme() api.Scheme {
	if m.wild && m.Intn(8) == 0 {
		return api.Scheme{Gens: m.Intn(5) - 2, T: m.typeOf(3, 2)}
	}
	return scheme.Canonical(api.Scheme{T: m.typeOf(4, m.Intn(4))})
}

// ctors: of the type of a name; in what is right no other one has theirs.
func (m maker) ctors(of string) []api.Ctor {
	var l []api.Ctor
	for i := range 1 + m.Intn(3) {
		c := ctor("C" + of + strconv.Itoa(i))
		if m.wild && m.Intn(4) == 0 {
			c.Name = m.high()
		}
		if m.Intn(2) == 0 {
			c.Args = m.types(1, 2)
		}
		if m.wild && m.Intn(15) == 0 {
			c.Args = append(c.Args, m.typeOf(2, 0))
		}
		l = append(l, c)
	}
	return l
}

func (m maker) tyMember() api.TyMember {
	if m.Intn(3) > 0 {
		return typ(m.low(), m.typeOf(2, 0))
	}
	t := typ(m.low(), stamp(m.stampNumber()))
	t.Ctors = m.ctors(t.Name)
	if m.wild && m.Intn(6) == 0 {
		t.T = m.typeOf(2, 0)
	}
	return t
}

// stamps: of a binder; in what is right no number stands twice.
func (m maker) stamps() []int {
	var l []int
	for range m.Intn(4) {
		n := m.stampNumber()
		if m.wild || !slices.Contains(l, n) {
			l = append(l, n)
		}
	}
	return l
}

func (m maker) abs(depth int) api.Abs {
	return api.Abs{Stamps: m.stamps(), S: m.str(depth, true)}
}

// str: a structure with what is nested in it at most so deep, with or without functors and signatures.
func (m maker) str(depth int, all bool) api.Str {
	var s api.Str
	for range m.Intn(4) {
		s.Types = append(s.Types, m.tyMember())
	}
	for range m.Intn(3) {
		s.Vals = append(s.Vals, api.ValMember{Name: m.low(), S: m.scheme()})
	}
	if depth > 1 {
		for range m.Intn(3) {
			s.Subs = append(s.Subs, api.SubMember{Name: m.high(), S: m.str(depth-1, all)})
		}
	}
	if all && depth > 1 && m.Intn(2) == 0 {
		s.Funs = append(s.Funs, functor(m.high(), m.stamps(), m.str(depth-1, true), m.abs(depth-1)))
		s.Sigs = append(s.Sigs, api.SigMember{Name: m.high(), A: m.abs(depth - 1)})
	}
	if !m.twice {
		s.Types, s.Vals, s.Subs = once(s.Types, typeName), once(s.Vals, valName), once(s.Subs, subName)
	}
	return s
}

// once: a list in the order of names, of each name one.
func once[M any](l []M, name func(M) string) []M {
	slices.SortStableFunc(l, func(a, b M) int { return strings.Compare(name(a), name(b)) })
	return slices.CompactFunc(l, func(a, b M) bool { return name(a) == name(b) })
}

// general: a scheme that is at least as general as another one: some parts of its type are left open.
func (m maker) general(s api.Scheme) api.Scheme {
	next := s.Gens
	if m.wild {
		next = 70
	}
	var by []api.Type
	var open func(t api.Type) api.Type
	open = func(t api.Type) api.Type {
		if t.Kind != api.TGen && m.Intn(6) == 0 {
			for i, u := range by {
				if tell(u) == tell(t) && m.Intn(2) == 0 {
					return gen(next + i)
				}
			}
			by = append(by, t)
			return gen(next + len(by) - 1)
		}
		t.Kids = slices.Clone(t.Kids)
		for i := range t.Kids {
			t.Kids[i] = open(t.Kids[i])
		}
		return t
	}
	return scheme.Canonical(api.Scheme{T: open(s.T)})
}

// more: a structure that has what is asked, if that asks for no functor or signature, and most often more.
func (m maker) more(asks api.Str) api.Str {
	var s api.Str
	for _, one := range asks.Types {
		if len(one.Ctors) == 0 && one.T.Kind == api.TStamp && m.Intn(4) == 0 {
			one.Ctors = m.ctors(one.Name)
		}
		s.Types = append(s.Types, one)
	}
	for _, one := range asks.Vals {
		if m.Intn(2) == 0 {
			one.S = m.general(one.S)
		}
		s.Vals = append(s.Vals, one)
	}
	for _, one := range asks.Subs {
		s.Subs = append(s.Subs, api.SubMember{Name: one.Name, S: m.more(one.S)})
	}
	if m.Intn(3) == 0 {
		s.Funs = append(s.Funs, functor("F", ints(1), str(val("x", stamp(1))), abs(ints(2), val("x", stamp(2)))))
		s.Sigs = append(s.Sigs, sig("S", ints(1), val("x", stamp(1))))
	}
	for range m.Intn(3) {
		m.beside(&s)
	}
	return s
}

// beside: a member more.
func (m maker) beside(s *api.Str) {
	switch m.Intn(3) {
	case 0:
		s.Types = put(m, s.Types, m.tyMember(), typeName)
	case 1:
		s.Vals = put(m, s.Vals, api.ValMember{Name: m.low(), S: m.scheme()}, valName)
	case 2:
		s.Subs = put(m, s.Subs, api.SubMember{Name: m.high(), S: m.str(2, false)}, subName)
	}
}

// put: puts a member somewhere; where there is one of its name, ahead of all, or nowhere, so that no other one comes to count.
func put[M any](m maker, l []M, one M, name func(M) string) []M {
	if _, there := last(l, name(one), name); there {
		if !m.twice {
			return l
		}
		return slices.Insert(slices.Clone(l), 0, one)
	}
	l = slices.Insert(slices.Clone(l), m.Intn(len(l)+1), one)
	if !m.twice {
		l = once(l, name)
	}
	return l
}

// spoil: one thing of a structure made otherwise.
func (m maker) spoil(s *api.Str) {
	for len(s.Subs) > 0 && m.Intn(2) == 0 {
		s.Subs = slices.Clone(s.Subs)
		s = &s.Subs[m.Intn(len(s.Subs))].S
	}
	switch kind := m.Intn(6); {
	case kind == 0 && len(s.Types) > 0:
		i := m.Intn(len(s.Types))
		s.Types = slices.Delete(slices.Clone(s.Types), i, i+1)
	case kind == 1 && len(s.Vals) > 0:
		i := m.Intn(len(s.Vals))
		s.Vals = slices.Delete(slices.Clone(s.Vals), i, i+1)
	case kind == 2 && len(s.Subs) > 0:
		i := m.Intn(len(s.Subs))
		s.Subs = slices.Delete(slices.Clone(s.Subs), i, i+1)
	case kind == 3 && len(s.Types) > 0:
		s.Types = slices.Clone(s.Types)
		one := &s.Types[m.Intn(len(s.Types))]
		m.spoilType(one)
	case kind == 4 && len(s.Vals) > 0:
		s.Vals = slices.Clone(s.Vals)
		s.Vals[m.Intn(len(s.Vals))].S = m.scheme()
	default:
		s.Types = append(slices.Clone(s.Types), m.tyMember())
	}
}

func (m maker) spoilType(one *api.TyMember) {
	if len(one.Ctors) == 0 || m.Intn(4) == 0 {
		one.T = m.typeOf(2, 0)
		return
	}
	l := slices.Clone(one.Ctors)
	i := m.Intn(len(l))
	switch m.Intn(4) {
	case 0:
		l[i].Name += "z"
	case 1:
		l[i].Args = m.types(1, 2)
	case 2:
		l = slices.Delete(l, i, i+1)
	case 3:
		l[0], l[i] = l[i], l[0]
	}
	one.Ctors = l
}

// asked: an Abs whose stamps stand somewhere as types, and the types that are right for them.
func (m maker) asked() (api.Abs, []api.Type) {
	a := api.Abs{S: m.str(3, false), Stamps: m.stamps()}
	for _, n := range a.Stamps {
		if at := m.somewhere(&a.S); m.Intn(8) > 0 {
			at.Types = put(m, at.Types, typ(chosen(m.Rand, []string{"t", "u", "v", "w"}), stamp(n)), typeName)
		}
	}
	if m.Intn(20) == 0 {
		a.S.Sigs = append(a.S.Sigs, sig("S", nil))
	}
	return a, m.types(len(a.Stamps), 3)
}

// somewhere: a structure within a structure.
func (m maker) somewhere(s *api.Str) *api.Str {
	for len(s.Subs) > 0 && m.Intn(2) == 0 {
		s = &s.Subs[m.Intn(len(s.Subs))].S
	}
	return s
}

// two: a structure, and what is asked of it, which it most often has with these types; either may be spoiled.
func (m maker) two() (api.Str, api.Abs, []api.Type) {
	a, l := m.asked()
	put, _ := plainPut(a.S, a.Stamps, l)
	has := m.more(put)
	if m.Intn(3) == 0 {
		m.spoil(&has)
	}
	if m.Intn(8) == 0 {
		m.spoil(&a.S)
	}
	return has, a, l
}
