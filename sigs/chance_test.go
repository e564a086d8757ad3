package sigs_test

import (
	"math/rand"
	"slices"
	"strings"

	"wafer/api"
	"wafer/env"
)

// maker: makes signature expressions by chance, of which most mean something. Few names stand in them, so that much hides something.
type maker struct {
	*rand.Rand
	wrong int // one in so many choices is made without a look at what is there
}

func newMaker(seed int64) *maker {
	r := rand.New(rand.NewSource(seed))
	return &maker{r, []int{25, 150, 100000}[seed%3]}
}

func chosen[T any](m *maker, l []T) T { return l[m.Intn(len(l))] }

func (m *maker) blind() bool { return m.Intn(m.wrong) == 0 }

func (m *maker) low() string {
	return chosen(m, []string{"t", "u", "x", "d", "e", "colour", "two", "no"})
}

func (m *maker) high() string { return chosen(m, []string{"M", "N", "A", "B", "T", "E", "NO"}) }

// typePaths: those of all types that may be named in an environment.
func typePaths(e env.Env) []string {
	var l []string
	for _, t := range e.Typs {
		l = append(l, t.Name)
	}
	for i, s := range e.Subs {
		last := !slices.ContainsFunc(e.Subs[i+1:], func(later env.Sub) bool { return later.Name == s.Name })
		if last {
			l = append(l, pathsIn(s.S, s.Name+".")...)
		}
	}
	return l
}

// pathsIn: those of the types in a structure.
func pathsIn(s api.Str, ahead string) []string {
	var l []string
	for _, t := range s.Types {
		l = append(l, ahead+t.Name)
	}
	for _, one := range s.Subs {
		l = append(l, pathsIn(one.S, ahead+one.Name+".")...)
	}
	return l
}

func sigPaths(e env.Env) []string {
	var l []string
	for _, g := range e.Sigs {
		l = append(l, g.Name)
	}
	for i, s := range e.Subs {
		last := !slices.ContainsFunc(e.Subs[i+1:], func(later env.Sub) bool { return later.Name == s.Name })
		if last {
			l = append(l, sigPathsIn(s.S, s.Name+".")...)
		}
	}
	return l
}

func sigPathsIn(s api.Str, ahead string) []string {
	var l []string
	for _, g := range s.Sigs {
		l = append(l, ahead+g.Name)
	}
	for _, one := range s.Subs {
		l = append(l, sigPathsIn(one.S, ahead+one.Name+".")...)
	}
	return l
}

// place: the world, or an environment by chance; none has a stamp above 9.
func (m *maker) place() env.Env {
	if m.Intn(2) == 0 {
		return world()
	}
	var e env.Env
	for range m.Intn(6) {
		e.Typs = append(e.Typs, env.Typ{Name: m.low(), T: m.typeOf(3)})
	}
	for range m.Intn(5) {
		e.Subs = append(e.Subs, env.Sub{Name: m.high(), S: m.str(3)})
		if m.Intn(2) == 0 {
			last := &e.Subs[len(e.Subs)-1].S
			last.Sigs = append(last.Sigs, api.SigMember{Name: m.high(), A: m.abs(2)})
		}
	}
	for range 1 + m.Intn(4) {
		e.Sigs = append(e.Sigs, env.Sig{Name: m.high(), A: m.abs(3)})
	}
	return e
}

func (m *maker) ty(e env.Env, depth int, open bool) api.Ty {
	if depth > 1 && m.Intn(2) == 0 {
		return api.Ty{Kind: chosen(m, []int{api.YFn, api.YPair}), Kids: []api.Ty{m.ty(e, depth-1, open), m.ty(e, depth-1, open)}}
	}
	if open && m.Intn(4) == 0 || m.blind() {
		return api.Ty{Kind: api.YVar, Name: chosen(m, []string{"a", "b", "c"})}
	}
	at := typePaths(e)
	if m.blind() || len(at) == 0 {
		return ycon(chosen(m, []string{"no", "t", "M.t", "M.N.t", "A.t", "E.t"}))
	}
	if m.Intn(6) == 0 {
		return ycon(chosen(m, []string{"int", "bool", "unit"}))
	}
	if m.Intn(2) == 0 {
		// The last ones are those of the signature itself.
		at = at[len(at)*2/3:]
	}
	return ycon(chosen(m, at))
}

func ycon(path string) api.Ty { return api.Ty{Kind: api.YCon, Path: strings.Split(path, ".")} }

// sig: a signature expression in an environment.
func (m *maker) sig(e env.Env, depth int) api.Sig {
	switch n := m.Intn(10); {
	case n < 2 || depth <= 1:
		if m.blind() {
			return path(chosen(m, []string{"NO", "M.NO", "M.T", "A.T"}))
		}
		return path(chosen(m, sigPaths(e)))
	case n < 5:
		g := m.sig(e, depth-1)
		a, _, _ := plainSig(e, g, 1000)
		at := m.free(a)
		if m.blind() || len(at) == 0 {
			at = append(pathsIn(a.S, ""), "t", "no", "M.t")
		}
		return where(g, chosen(m, at), m.ty(e, 2, false))
	}
	var g api.Sig
	g.Kind = api.SSig
	var done []added
	for range m.Intn(6) {
		of := within(e, done)
		s := m.spec(of, depth, done)
		g.Specs = append(g.Specs, s)
		next := 2000
		if len(done) > 0 {
			next = done[len(done)-1].behind
		}
		one, err := plainSpec(of, s, next)
		if err == api.OK {
			done = append(done, one)
		}
	}
	return g
}

// free: the paths of types for which others may be put in.
func (m *maker) free(a api.Abs) []string {
	var l []string
	for _, p := range pathsIn(a.S, "") {
		if _, err := plainWhere(a, strings.Split(p, "."), integer()); err == api.OK {
			l = append(l, p)
		}
	}
	return l
}

// spec: a specification behind others.
func (m *maker) spec(e env.Env, depth int, ahead []added) api.Spec {
	there := together(ahead).S
	name := m.low()
	for !m.blind() && slices.ContainsFunc(there.Types, func(t api.TyMember) bool { return t.Name == name }) {
		name += chosen(m, []string{"1", "2"})
	}
	switch m.Intn(9) {
	case 0, 1:
		return ctype(name)
	case 2:
		return ctype(name, m.ty(e, 2, false))
	case 3, 4:
		s := cdata(name)
		of := within(e, []added{{api.Abs{S: str(typ(name, stamp(9)))}, 0}})
		for i := range 1 + m.Intn(3) {
			c := con(chosen(m, []string{"A", "B"}) + strings.ToUpper(name) + strings.Repeat("z", i))
			if m.Intn(2) == 0 {
				c.Tys = append(c.Tys, m.ty(of, 2, false))
			}
			s.Cons = append(s.Cons, c)
		}
		if m.blind() {
			s.Cons = append(s.Cons, s.Cons[0])
		}
		return s
	case 5, 6:
		for slices.ContainsFunc(there.Vals, func(v api.ValMember) bool { return v.Name == name }) && !m.blind() {
			name += "v"
		}
		return cval(name, m.ty(e, 3, true))
	}
	name = m.high()
	for slices.ContainsFunc(there.Subs, func(s api.SubMember) bool { return s.Name == name }) && !m.blind() {
		name += chosen(m, []string{"A", "B"})
	}
	return cstr(name, m.sig(e, depth-1))
}

// spoil: one thing of a signature expression made otherwise, most often so that it is not right any more.
func (m *maker) spoil(g *api.Sig) {
	for {
		switch {
		case len(g.Sigs) > 0 && m.Intn(3) > 0:
			g = &g.Sigs[0]
			continue
		case len(g.Specs) > 0 && m.Intn(3) > 0:
			s := &g.Specs[m.Intn(len(g.Specs))]
			if len(s.Sigs) > 0 && m.Intn(3) > 0 {
				g = &s.Sigs[0]
				continue
			}
			m.spoilSpec(s)
		default:
			m.spoilSig(g)
		}
		return
	}
}

func (m *maker) spoilSpec(s *api.Spec) {
	switch m.Intn(6) {
	case 0:
		s.Kind = m.Intn(7) - 1
	case 1:
		s.Name = chosen(m, []string{"", "x", "X", "end", "a b", strings.Repeat("a", 33)})
	case 2:
		s.Tys = append(s.Tys, ty("int"))
	case 3:
		s.Tys = nil
	case 4:
		s.Cons = append(s.Cons, con("A"))
	case 5:
		s.Sigs = append(s.Sigs, specs())
	}
}

func (m *maker) spoilSig(g *api.Sig) {
	switch m.Intn(5) {
	case 0:
		g.Kind = m.Intn(6) - 1
	case 1:
		g.Path = append(slices.Clone(g.Path), chosen(m, []string{"", "x", "X"}))
	case 2:
		g.Path = nil
	case 3:
		g.Tys = append(g.Tys, ty("t"))
	case 4:
		g.Sigs = append(g.Sigs, path("T"))
	}
}

// abs: any Abs without functors and signatures, whose stamps are below 8; few are right.
func (m *maker) abs(depth int) api.Abs {
	a := api.Abs{S: m.str(depth)}
	for n := range 8 {
		if m.Intn(3) > 0 {
			a.Stamps = append(a.Stamps, n)
		}
	}
	m.Shuffle(len(a.Stamps), func(i, j int) { a.Stamps[i], a.Stamps[j] = a.Stamps[j], a.Stamps[i] })
	return a
}

func (m *maker) typeOf(depth int) api.Type {
	if depth > 1 && m.Intn(2) == 0 {
		return node(chosen(m, []int{api.TFn, api.TPair}), 0, m.typeOf(depth-1), m.typeOf(depth-1))
	}
	if m.Intn(4) == 0 {
		return node(chosen(m, []int{api.TInt, api.TBool, api.TUnit}), 0)
	}
	return stamp(m.Intn(8))
}

func (m *maker) str(depth int) api.Str {
	var s api.Str
	for range m.Intn(5) {
		t := typ(m.low(), m.typeOf(2))
		if m.Intn(5) == 0 {
			t.T = stamp(m.Intn(8))
			for range 1 + m.Intn(2) {
				t.Ctors = append(t.Ctors, ctor("C"+m.high(), m.typeOf(2)), ctor("D"))
			}
		}
		s.Types = append(s.Types, t)
	}
	for range m.Intn(4) {
		s.Vals = append(s.Vals, poly(m.low(), 1, fn(gen(0), m.typeOf(3))))
	}
	for range m.Intn(3) {
		if depth > 1 {
			s.Subs = append(s.Subs, api.SubMember{Name: m.high(), S: m.str(depth - 1)})
		}
	}
	return s
}
