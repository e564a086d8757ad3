package env_test

import (
	"math"
	"math/rand"
	"reflect"
	"slices"
	"strconv"
	"strings"
	"testing"

	"wafer/api"
	"wafer/env"
)

func node(kind, n int, kids ...api.Type) api.Type { return api.Type{Kind: kind, N: n, Kids: kids} }

func stamp(n int) api.Type { return node(api.TStamp, n) }

func gen(n int) api.Type { return node(api.TGen, n) }

func fn(a, b api.Type) api.Type { return node(api.TFn, 0, a, b) }

func pair(a, b api.Type) api.Type { return node(api.TPair, 0, a, b) }

func integer() api.Type { return node(api.TInt, 0) }

func boolean() api.Type { return node(api.TBool, 0) }

func unit() api.Type { return node(api.TUnit, 0) }

// of: a scheme.
func of(gens int, t api.Type) api.Scheme { return api.Scheme{Gens: gens, T: t} }

func ctor(name string, args ...api.Type) api.Ctor { return api.Ctor{Name: name, Args: args} }

func typ(name string, t api.Type, ctors ...api.Ctor) api.TyMember {
	return api.TyMember{Name: name, T: t, Ctors: ctors}
}

func val(name string, t api.Type) api.ValMember { return api.ValMember{Name: name, S: of(0, t)} }

func poly(name string, gens int, t api.Type) api.ValMember {
	return api.ValMember{Name: name, S: of(gens, t)}
}

func sub(name string, members ...any) api.SubMember {
	return api.SubMember{Name: name, S: str(members...)}
}

func functor(name string, stamps []int, arg api.Str, res api.Abs) api.FunMember {
	return api.FunMember{Name: name, F: api.Fun{Stamps: stamps, Arg: arg, Res: res}}
}

func sig(name string, stamps []int, members ...any) api.SigMember {
	return api.SigMember{Name: name, A: abs(stamps, members...)}
}

// str: a structure of such members, each list as they stand.
func str(members ...any) api.Str {
	var s api.Str
	for _, m := range members {
		switch m := m.(type) {
		case api.TyMember:
			s.Types = append(s.Types, m)
		case api.ValMember:
			s.Vals = append(s.Vals, m)
		case api.SubMember:
			s.Subs = append(s.Subs, m)
		case api.FunMember:
			s.Funs = append(s.Funs, m)
		case api.SigMember:
			s.Sigs = append(s.Sigs, m)
		default:
			panic("no member")
		}
	}
	return s
}

func abs(stamps []int, members ...any) api.Abs { return api.Abs{Stamps: stamps, S: str(members...)} }

func ints(l ...int) []int { return l }

func path(l ...string) []string { return l }

func variable(name string) api.TM { return api.TM{Kind: api.XVar, Name: name} }

func sel(label string, x api.TM) api.TM {
	return api.TM{Kind: api.XSel, Name: label, Kids: []api.TM{x}}
}

// Types as they are written.
func yvar(name string) api.Ty { return api.Ty{Kind: api.YVar, Name: name} }

func ycon(names ...string) api.Ty { return api.Ty{Kind: api.YCon, Path: names} }

func yfn(a, b api.Ty) api.Ty { return api.Ty{Kind: api.YFn, Kids: []api.Ty{a, b}} }

func ypair(a, b api.Ty) api.Ty { return api.Ty{Kind: api.YPair, Kids: []api.Ty{a, b}} }

// edges: numbers at the ends of what may come.
func edges() []int {
	return []int{math.MinInt, math.MinInt32, -2, -1, 0, 1, math.MaxInt32, math.MaxInt32 + 1, math.MaxInt - 1, math.MaxInt}
}

// tell: all that plain data has, for an error's text and to hold one against another; a list that is nil is told like an empty one.
func tell(x any) string {
	var b strings.Builder
	tellIn(&b, reflect.ValueOf(x), false)
	return b.String()
}

// tellRoom: the same, with what stands in the spare room of lists.
func tellRoom(x any) string {
	var b strings.Builder
	tellIn(&b, reflect.ValueOf(x), true)
	return b.String()
}

func tellIn(b *strings.Builder, v reflect.Value, room bool) {
	switch v.Kind() {
	case reflect.Int, reflect.Int64:
		b.WriteString(strconv.FormatInt(v.Int(), 10))
	case reflect.String:
		b.WriteString(strconv.Quote(v.String()))
	case reflect.Bool:
		b.WriteString(strconv.FormatBool(v.Bool()))
	case reflect.Struct:
		b.WriteString("{")
		for i := range v.NumField() {
			if i > 0 {
				b.WriteString(" ")
			}
			tellIn(b, v.Field(i), room)
		}
		b.WriteString("}")
	case reflect.Slice:
		b.WriteString("[")
		all := v
		if room {
			b.WriteString(strconv.Itoa(v.Len()) + ":")
			all = v.Slice(0, v.Cap())
		}
		for i := range all.Len() {
			if i > 0 {
				b.WriteString(" ")
			}
			tellIn(b, all.Index(i), room)
		}
		b.WriteString("]")
	default:
		panic("no plain data")
	}
}

// brief: a text that is not too long to be told.
func brief(s string) string {
	if len(s) > 900 {
		return s[:900] + ".."
	}
	return s
}

// same: two answers are alike.
func same(t *testing.T, what string, got, want any) {
	t.Helper()
	if g, w := tell(got), tell(want); g != w {
		t.Fatalf("%s:\n%s, want\n%s", brief(what), brief(g), brief(w))
	}
}

// chosen: one of a list, by chance.
func chosen[E any](r *rand.Rand, l []E) E { return l[r.Intn(len(l))] }

// maker: makes structures by chance. Few names and stamps stand in them, so that much is there twice, bound by several, and free.
type maker struct {
	*rand.Rand
	wild  bool
	most  int // numbers of stamps are below it
	names int // so many names of a kind
}

func newMaker(seed int64) maker {
	r := rand.New(rand.NewSource(seed))
	return maker{Rand: r, wild: seed%2 == 1, most: 2 + r.Intn(7), names: 2 + r.Intn(3)}
}

func (m maker) low() string {
	if m.wild && m.Intn(30) == 0 {
		return chosen(m.Rand, []string{"", "int", "\n", "A", "out t", "t.u", strings.Repeat("x", 40)})
	}
	return chosen(m.Rand, []string{"t", "u", "x", "a1", "b"}[:m.names])
}

func (m maker) high() string {
	if m.wild && m.Intn(30) == 0 {
		return chosen(m.Rand, []string{"", "M.N", "t", "()", "C()", strings.Repeat("X", 40)})
	}
	return chosen(m.Rand, []string{"M", "N", "C", "A1", "B"}[:m.names])
}

func (m maker) stampNumber() int {
	if m.wild && m.Intn(25) == 0 {
		return chosen(m.Rand, edges())
	}
	return m.Intn(m.most)
}

// typeOf: a type, nested at most so deep; its TGen are below gens.
func (m maker) typeOf(depth, gens int) api.Type {
	if m.wild && m.Intn(12) == 0 {
		t := node(m.Intn(11)-1, m.stampNumber())
		for depth > 1 && m.Intn(3) > 0 {
			t.Kids = append(t.Kids, m.typeOf(depth-1, gens))
		}
		return t
	}
	if depth > 1 && m.Intn(3) == 0 {
		return node(chosen(m.Rand, ints(api.TFn, api.TPair)), 0, m.typeOf(depth-1, gens), m.typeOf(depth-1, gens))
	}
	if gens > 0 && m.Intn(3) == 0 {
		return gen(m.Intn(gens))
	}
	return chosen(m.Rand, []api.Type{integer(), boolean(), unit(), stamp(m.stampNumber()), stamp(m.stampNumber()), stamp(m.stampNumber()), stamp(m.stampNumber())})
}

func (m maker) scheme() api.Scheme {
	if m.wild && m.Intn(8) == 0 {
		return of(m.Intn(5)-2, m.typeOf(3, 2))
	}
	if m.Intn(3) == 0 {
		return of(1, fn(gen(0), m.typeOf(2, 1)))
	}
	return of(0, m.typeOf(3, 0))
}

func (m maker) ctors() []api.Ctor {
	var l []api.Ctor
	for i := range m.Intn(4) {
		c := ctor(m.high() + strconv.Itoa(i))
		if m.wild && m.Intn(4) == 0 {
			c.Name = m.high()
		}
		if m.Intn(2) == 0 {
			c.Args = append(c.Args, m.typeOf(2, 0))
		}
		if m.wild && m.Intn(15) == 0 {
			c.Args = append(c.Args, m.typeOf(2, 0))
		}
		l = append(l, c)
	}
	return l
}

func (m maker) tyMember() api.TyMember {
	if m.Intn(2) == 0 {
		return typ(m.low(), m.typeOf(2, 0))
	}
	t := typ(m.low(), stamp(m.stampNumber()), m.ctors()...)
	if m.wild && m.Intn(6) == 0 {
		t.T = m.typeOf(2, 0)
	}
	return t
}

// stamps: of a binder; in what is right no number stands twice.
func (m maker) stamps() []int {
	var l []int
	for range m.Intn(4) {
		n := m.stampNumber()
		if m.wild || !slices.Contains(l, n) {
			l = append(l, n)
		}
	}
	return l
}

func (m maker) abs(depth int) api.Abs { return api.Abs{Stamps: m.stamps(), S: m.str(depth)} }

func (m maker) functor(depth int) api.Fun {
	return api.Fun{Stamps: m.stamps(), Arg: m.str(depth), Res: m.abs(depth)}
}

// str: a structure with structures, functors and signatures nested at most so deep; if it is right, its lists are in order and have each name once.
func (m maker) str(depth int) api.Str {
	var s api.Str
	for range m.Intn(3) {
		s.Types = append(s.Types, m.tyMember())
	}
	for range m.Intn(3) {
		s.Vals = append(s.Vals, api.ValMember{Name: m.low(), S: m.scheme()})
	}
	if depth > 1 {
		for range m.Intn(3) {
			s.Subs = append(s.Subs, api.SubMember{Name: m.high(), S: m.str(depth - 1)})
		}
		for range m.Intn(2) {
			s.Funs = append(s.Funs, api.FunMember{Name: m.high(), F: m.functor(depth - 1)})
		}
		for range m.Intn(2) {
			s.Sigs = append(s.Sigs, api.SigMember{Name: m.high(), A: m.abs(depth - 1)})
		}
	}
	if !m.wild {
		s = inOrder(s)
	}
	return s
}

// inOrder: a structure whose own lists are in the order of names, and have each name once.
func inOrder(s api.Str) api.Str {
	return api.Str{
		Types: once(s.Types, func(m api.TyMember) string { return m.Name }),
		Vals:  once(s.Vals, func(m api.ValMember) string { return m.Name }),
		Subs:  once(s.Subs, func(m api.SubMember) string { return m.Name }),
		Funs:  once(s.Funs, func(m api.FunMember) string { return m.Name }),
		Sigs:  once(s.Sigs, func(m api.SigMember) string { return m.Name }),
	}
}

func once[M any](l []M, name func(M) string) []M {
	l = byName(l, name)
	return slices.CompactFunc(l, func(a, b M) bool { return name(a) == name(b) })
}

// term: any term, nested at most so deep, of those kinds that names and structures have, and of others.
func (m maker) term(depth int) api.TM {
	x := variable(m.high())
	if depth > 1 {
		switch m.Intn(4) {
		case 0:
			x = sel(m.high(), m.term(depth-1))
		case 1:
			x = api.TM{Kind: api.XRec, Labels: path("A", "b"), Kids: []api.TM{m.term(depth - 1), m.term(depth - 1)}}
		case 2:
			// Stamps of types in terms are not the environment's.
			x = api.TM{Kind: api.XFold, Types: []api.TT{{Kind: api.GRec, Labels: path("x"), Kids: []api.TT{{Kind: api.GVar, N: 70}}}}, Kids: []api.TM{m.term(depth - 1)}}
		}
	}
	return x
}

func (m maker) con() env.Con {
	c := env.Con{Name: m.high(), T: stamp(m.stampNumber()), All: m.ctors(), N: m.Intn(4), X: m.term(3), Out: m.term(3)}
	if m.Intn(2) == 0 {
		c.Args = []api.Type{m.typeOf(2, 0)}
	}
	return c
}

// env: an environment with structures that are nested at most so deep.
func (m maker) env(depth int) env.Env {
	var e env.Env
	for range m.Intn(4) {
		e.Vals = append(e.Vals, env.Val{Name: m.low(), S: m.scheme(), X: m.term(3)})
	}
	for range m.Intn(4) {
		e.Cons = append(e.Cons, m.con())
	}
	for range m.Intn(4) {
		t := m.tyMember()
		e.Typs = append(e.Typs, env.Typ{Name: t.Name, T: t.T, Ctors: t.Ctors})
	}
	for range m.Intn(4) {
		e.Subs = append(e.Subs, env.Sub{Name: m.high(), S: m.str(depth), X: m.term(3)})
	}
	for range m.Intn(3) {
		e.Funs = append(e.Funs, env.Fun{Name: m.high(), F: m.functor(depth - 1), X: m.term(3)})
	}
	for range m.Intn(3) {
		e.Sigs = append(e.Sigs, env.Sig{Name: m.high(), A: m.abs(depth - 1)})
	}
	return e
}

// path: of names that may be there, the last one low or high.
func (m maker) path(low bool) []string {
	var l []string
	for range m.Intn(4) {
		l = append(l, m.high())
	}
	if low {
		return append(l, m.low())
	}
	if m.Intn(20) == 0 {
		return l
	}
	return append(l, m.high())
}
