package trans_test

import (
	"math"
	"math/rand"
	"reflect"
	"slices"
	"strconv"
	"strings"
	"testing"

	"wafer/api"
)

func node(kind, n int, kids ...api.Type) api.Type { return api.Type{Kind: kind, N: n, Kids: kids} }

func stamp(n int) api.Type { return node(api.TStamp, n) }

func meta(n int) api.Type { return node(api.TMeta, n) }

func gen(n int) api.Type { return node(api.TGen, n) }

func fn(a, b api.Type) api.Type { return node(api.TFn, 0, a, b) }

func pair(a, b api.Type) api.Type { return node(api.TPair, 0, a, b) }

func integer() api.Type { return node(api.TInt, 0) }

func boolean() api.Type { return node(api.TBool, 0) }

func unit() api.Type { return node(api.TUnit, 0) }

// of: a scheme.
func of(gens int, t api.Type) api.Scheme { return api.Scheme{Gens: gens, T: t} }

func ctor(name string, args ...api.Type) api.Ctor { return api.Ctor{Name: name, Args: args} }

func ctors(l ...api.Ctor) []api.Ctor { return l }

func typ(name string, t api.Type, l ...api.Ctor) api.TyMember {
	return api.TyMember{Name: name, T: t, Ctors: l}
}

func val(name string, t api.Type) api.ValMember { return api.ValMember{Name: name, S: of(0, t)} }

func poly(name string, gens int, t api.Type) api.ValMember {
	return api.ValMember{Name: name, S: of(gens, t)}
}

func sub(name string, members ...any) api.SubMember {
	return api.SubMember{Name: name, S: str(members...)}
}

func functor(name string, stamps []int, arg api.Str, res api.Abs) api.FunMember {
	return api.FunMember{Name: name, F: fun(stamps, arg, res)}
}

func fun(stamps []int, arg api.Str, res api.Abs) api.Fun {
	return api.Fun{Stamps: stamps, Arg: arg, Res: res}
}

func sig(name string, stamps []int, members ...any) api.SigMember {
	return api.SigMember{Name: name, A: abs(stamps, members...)}
}

// str: a structure of such members, each list as they stand.
func str(members ...any) api.Str {
	var s api.Str
	for _, m := range members {
		switch m := m.(type) {
		case api.TyMember:
			s.Types = append(s.Types, m)
		case api.ValMember:
			s.Vals = append(s.Vals, m)
		case api.SubMember:
			s.Subs = append(s.Subs, m)
		case api.FunMember:
			s.Funs = append(s.Funs, m)
		case api.SigMember:
			s.Sigs = append(s.Sigs, m)
		default:
			panic("no member")
		}
	}
	return s
}

func abs(stamps []int, members ...any) api.Abs { return api.Abs{Stamps: stamps, S: str(members...)} }

func ints(l ...int) []int { return l }

func texts(l ...string) []string { return l }

// Target types.
func tt(kind, n int, kids ...api.TT) api.TT { return api.TT{Kind: kind, N: n, Kids: kids} }

func v(n int) api.TT { return tt(api.GVar, n) }

func gint() api.TT { return tt(api.GInt, 0) }

func gbool() api.TT { return tt(api.GBool, 0) }

func gunit() api.TT { return tt(api.GUnit, 0) }

func gfn(a, b api.TT) api.TT { return tt(api.GFn, 0, a, b) }

func gpair(a, b api.TT) api.TT { return tt(api.GPair, 0, a, b) }

func sum(kids ...api.TT) api.TT { return tt(api.GSum, 0, kids...) }

func mu(n int, kid api.TT) api.TT { return tt(api.GMu, n, kid) }

func all(n int, kid api.TT) api.TT { return tt(api.GAll, n, kid) }

func some(n int, kid api.TT) api.TT { return tt(api.GEx, n, kid) }

func rec(labels []string, kids ...api.TT) api.TT {
	return api.TT{Kind: api.GRec, Labels: labels, Kids: kids}
}

// top: the greatest number that a stamp may have.
const top = 1<<31 - 1

// noStamps: numbers that no stamp has.
func noStamps() []int {
	return []int{math.MinInt, math.MinInt32, -top, -2, -1, top + 1, top + 2, 1 << 32, math.MaxInt - 1, math.MaxInt}
}

// noKinds: numbers that are no kind of a type.
func noKinds() []int { return []int{math.MinInt, -6, -1, 0, 9, 10, 11, 1 << 32, math.MaxInt} }

// tell: all that plain data has, for an error's text and to hold one against another; a list that is nil is told like an empty one.
func tell(x any) string {
	var b strings.Builder
	tellIn(&b, reflect.ValueOf(x), false)
	return b.String()
}

// tellRoom: the same, with what stands in the spare room of lists.
func tellRoom(x any) string {
	var b strings.Builder
	tellIn(&b, reflect.ValueOf(x), true)
	return b.String()
}

func tellIn(b *strings.Builder, v reflect.Value, room bool) {
	switch v.Kind() {
	case reflect.Int:
		b.WriteString(strconv.FormatInt(v.Int(), 10))
	case reflect.String:
		b.WriteString(strconv.Quote(v.String()))
	case reflect.Struct:
		b.WriteString("{")
		for i := range v.NumField() {
			if i > 0 {
				b.WriteString(" ")
			}
			tellIn(b, v.Field(i), room)
		}
		b.WriteString("}")
	case reflect.Slice:
		b.WriteString("[")
		all := v
		if room {
			b.WriteString(strconv.Itoa(v.Len()) + ":")
			all = v.Slice(0, v.Cap())
		}
		for i := range all.Len() {
			if i > 0 {
				b.WriteString(" ")
			}
			tellIn(b, all.Index(i), room)
		}
		b.WriteString("]")
	default:
		panic("no plain data")
	}
}

// brief: a text that is not too long to be told.
func brief(s string) string {
	if len(s) > 900 {
		return s[:900] + ".."
	}
	return s
}

// answers: just that type and that error; with an error the zero type.
func answers(t *testing.T, what string, got api.TT, code api.Errno, want api.TT, wantCode api.Errno) {
	t.Helper()
	if wantCode != api.OK {
		want = api.TT{}
	}
	if g, w := tell(got), tell(want); g != w || code != wantCode {
		t.Fatalf("%s:\n%s, %v, want\n%s, %v", brief(what), brief(g), code, brief(w), wantCode)
	}
}

// chosen: one of a list, by chance.
func chosen[E any](r *rand.Rand, l ...E) E { return l[r.Intn(len(l))] }

// maker: makes types and structures by chance. Few stamps stand in them, so that many are bound by several, and free too.
type maker struct {
	*rand.Rand
	wild bool
	most int // numbers of stamps are below it
	odd  int // in what is wild one of so many things is not right
}

// newMaker: right things of even seeds, wild ones of odd seeds.
func newMaker(seed int64) maker {
	r := rand.New(rand.NewSource(seed))
	return maker{Rand: r, wild: seed%2 == 1, most: 2 + r.Intn(7), odd: 8 << r.Intn(8)}
}

// off: is this thing to be one that is not right?
func (m maker) off() bool { return m.wild && m.Intn(m.odd) == 0 }

func (m maker) low() string {
	if m.off() {
		return chosen(m.Rand, "", "int", "\n", "A", "C()", "out t", "out ", "t.u", "\xff", strings.Repeat("x", 40))
	}
	return chosen(m.Rand, "t", "u", "x", "a1", "b", "out", "out1", "f", "g", "h")
}

func (m maker) high() string {
	if m.off() {
		return chosen(m.Rand, "", "M.N", "t", "()", "C()", "out t", "\xff", strings.Repeat("X", 40))
	}
	return chosen(m.Rand, "M", "N", "C", "C1", "A1", "B", "Z", "D", "E", "F")
}

func (m maker) stampNumber() int {
	if m.off() {
		return chosen(m.Rand, noStamps()...)
	}
	if m.Intn(50) == 0 {
		return chosen(m.Rand, 0, top-1, top)
	}
	return m.Intn(m.most)
}

// typeOf: a type, nested at most so deep; its TGen are below gens.
func (m maker) typeOf(depth, gens int) api.Type {
	if m.off() {
		t := node(m.Intn(11)-1, m.stampNumber())
		for depth > 1 && m.Intn(3) > 0 {
			t.Kids = append(t.Kids, m.typeOf(depth-1, gens))
		}
		return t
	}
	if depth > 1 && m.Intn(3) > 0 {
		left := m.typeOf(depth-1, gens)
		return node(chosen(m.Rand, api.TFn, api.TPair), 0, left, m.typeOf(depth-1, gens))
	}
	if gens > 0 && m.Intn(2) == 0 {
		return gen(m.Intn(gens))
	}
	return chosen(m.Rand, integer(), boolean(), unit(), stamp(m.stampNumber()), stamp(m.stampNumber()), stamp(m.stampNumber()))
}

// scheme: a right one, unless something is off: its TGen are numbered as they first stand.
func (m maker) scheme() api.Scheme {
	t := m.typeOf(4, m.Intn(4))
	var told []int
	numbered(&t, &told)
	s := of(len(told), t)
	if m.off() {
		s.Gens += m.Intn(5) - 2
	}
	return s
}

// numbered: gives the TGen of a type other numbers, in the order in which they first stand.
func numbered(t *api.Type, told *[]int) {
	if t.Kind == api.TGen {
		if !slices.Contains(*told, t.N) {
			*told = append(*told, t.N)
		}
		t.N = slices.Index(*told, t.N)
	}
	for i := range t.Kids {
		numbered(&t.Kids[i], told)
	}
}

func (m maker) ctor() api.Ctor {
	c := ctor(m.high() + strconv.Itoa(m.Intn(30)))
	if m.off() {
		c.Name = m.high()
	}
	if m.Intn(2) == 0 {
		c.Args = append(c.Args, m.typeOf(3, 0))
	}
	if m.off() {
		c.Args = append(c.Args, m.typeOf(2, 0))
	}
	return c
}

func (m maker) ctors() []api.Ctor {
	var l []api.Ctor
	for range m.Intn(4) {
		l = append(l, m.ctor())
	}
	return l
}

func (m maker) tyMember() api.TyMember {
	if m.Intn(2) == 0 {
		return typ(m.low(), m.typeOf(2, 0))
	}
	t := typ(m.low(), stamp(m.stampNumber()), m.ctors()...)
	if m.off() {
		t.T = m.typeOf(2, 0)
	}
	return t
}

// stamps: of a binder; in what is right no number stands twice.
func (m maker) stamps() []int {
	var l []int
	for range m.Intn(4) {
		n := m.stampNumber()
		if !slices.Contains(l, n) || m.wild && m.Intn(4) == 0 {
			l = append(l, n)
		}
	}
	return l
}

func (m maker) abs(depth int) api.Abs { return api.Abs{Stamps: m.stamps(), S: m.str(depth)} }

func (m maker) functor(depth int) api.Fun {
	return api.Fun{Stamps: m.stamps(), Arg: m.str(depth), Res: m.abs(depth)}
}

// str: a structure with structures, functors and signatures nested at most so deep; what is right has no two labels that are alike.
func (m maker) str(depth int) api.Str {
	var s api.Str
	for range m.Intn(4) {
		s.Types = append(s.Types, m.tyMember())
	}
	for range m.Intn(4) {
		s.Vals = append(s.Vals, api.ValMember{Name: m.low(), S: m.scheme()})
	}
	if depth > 1 {
		for range m.Intn(3) {
			s.Subs = append(s.Subs, api.SubMember{Name: m.high(), S: m.str(depth - 1)})
		}
		for range m.Intn(3) {
			s.Funs = append(s.Funs, api.FunMember{Name: m.high(), F: m.functor(depth - 1)})
		}
		for range m.Intn(2) {
			s.Sigs = append(s.Sigs, api.SigMember{Name: m.high(), A: m.abs(depth - 1)})
		}
	}
	if !m.wild || m.Intn(8) > 0 {
		s = unlike(s)
	}
	return s
}

// unlike: a structure without those members of which a label stands in it already.
func unlike(s api.Str) api.Str {
	seen := map[string]struct{}{}
	fresh := func(labels ...string) bool {
		for i, label := range labels {
			if _, again := seen[label]; again || slices.Contains(labels[:i], label) {
				return false
			}
		}
		for _, label := range labels {
			seen[label] = struct{}{}
		}
		return true
	}
	out := api.Str{Sigs: s.Sigs}
	for _, m := range s.Types {
		if fresh(labelsOf(m)...) {
			out.Types = append(out.Types, m)
		}
	}
	for _, m := range s.Vals {
		if fresh(m.Name) {
			out.Vals = append(out.Vals, m)
		}
	}
	for _, m := range s.Subs {
		if fresh(m.Name) {
			out.Subs = append(out.Subs, m)
		}
	}
	for _, m := range s.Funs {
		if fresh(m.Name) {
			out.Funs = append(out.Funs, m)
		}
	}
	return out
}
