package core_test

import (
	"math/rand"
	"slices"
	"strings"

	"wafer/api"
	"wafer/core"
	"wafer/env"
	"wafer/names"
	"wafer/scheme"
	"wafer/tree"
	"wafer/types"
)

// maker: makes declarations by chance.
type maker struct {
	*rand.Rand
	e     env.Env
	paths []local // the values of the world that stand in structures
}

// makers: makes makers of one world.
func makers() func(seed int64) *maker {
	e := place()
	var paths []local
	for _, x := range values() {
		if strings.Contains(x.path, ".") {
			paths = append(paths, local{x.path, schemeOf(e, x.s)})
		}
	}
	return func(seed int64) *maker { return &maker{rand.New(rand.NewSource(seed)), e, paths} }
}

func chosen[T any](m *maker, l ...T) T { return l[m.Intn(len(l))] }

// typeOf: a closed type of the world.
func (m *maker) typeOf(depth int) api.Type {
	if depth <= 1 || m.Intn(3) == 0 {
		return chosen(m, integer(), boolean(), unit(), stamp(1), stamp(2), stamp(3), stamp(4), stamp(5), stamp(7), stamp(hid), stamp(other))
	}
	if m.Intn(3) == 0 {
		return fn(m.typeOf(depth-1), m.typeOf(depth-1))
	}
	return pair(m.typeOf(depth-1), m.typeOf(depth-1))
}

// written: how a closed type of the world is written.
func written(t api.Type) api.Ty {
	path := func(s string) api.Ty { return api.Ty{Kind: api.YCon, Path: strings.Split(s, ".")} }
	switch t.Kind {
	case api.TInt:
		return path("int")
	case api.TBool:
		return path("bool")
	case api.TUnit:
		return path("unit")
	case api.TFn, api.TPair:
		kind := api.YFn
		if t.Kind == api.TPair {
			kind = api.YPair
		}
		return api.Ty{Kind: kind, Kids: []api.Ty{written(t.Kids[0]), written(t.Kids[1])}}
	}
	switch t.N {
	case hid:
		return path("hid")
	case other:
		return path("M.t")
	}
	d, _ := datatype(t.N)
	return path(d.at + d.name)
}

// local: a name that is bound, with its scheme in the place where it stands.
type local struct {
	name string
	s    api.Scheme
}

// scope: the names that are bound around, the nearest one last.
type scope []local

func (s scope) with(l ...local) scope { return append(slices.Clip(s), l...) }

// name: few names, which hide one another and those of the world.
func (m *maker) name() string { return chosen(m, "x", "y", "z", "f", "g", "one", "ident", "nums") }

// fits: the names and paths whose schemes have an instance that is t.
func (m *maker) fits(in scope, t api.Type) []string {
	var l []string
	hidden := map[string]bool{}
	look := func(name string, s api.Scheme) {
		if hidden[name] {
			return
		}
		hidden[name] = true
		if scheme.AtLeast(s, types.Mono(t)) {
			l = append(l, name)
		}
	}
	for _, x := range slices.Backward(in) {
		look(x.name, x.s)
	}
	for _, x := range slices.Backward(m.e.Vals) {
		look(x.Name, x.S)
	}
	for _, x := range m.paths {
		look(x.name, x.s)
	}
	return l
}

// expOf: an expression that most often has a type.
func (m *maker) expOf(t api.Type, depth int, in scope) api.Exp {
	if depth <= 1 || m.Intn(5) == 0 {
		return m.least(t, depth, in)
	}
	switch m.Intn(12) {
	case 0, 1:
		from := m.typeOf(2)
		f := m.expOf(fn(from, t), depth-1, in)
		return apply(f, m.expOf(from, depth-1, in))
	case 2:
		return ex(api.EIf, m.expOf(boolean(), depth-1, in), m.expOf(t, depth-1, in), m.expOf(t, depth-1, in))
	case 3, 4:
		return m.choice(t, depth, in)
	case 5, 6:
		var l []api.Dec
		for range 1 + m.Intn(2) {
			d := m.dec(depth-1, in)
			l = append(l, d)
			in = in.with(local{d.Name, m.scheme(d, in)})
		}
		return letIn(m.expOf(t, depth-1, in), l...)
	case 7:
		return ann(m.expOf(t, depth-1, in), written(t))
	}
	return m.formed(t, depth, in)
}

// scheme: that of a declaration, where the names around have theirs; of one that has none any.
func (m *maker) scheme(d api.Dec, in scope) api.Scheme {
	e := m.e
	e.Vals = slices.Clip(e.Vals)
	for _, x := range in {
		e.Vals = append(e.Vals, env.Val{Name: x.name, S: x.s, X: v(x.name)})
	}
	s, _, err := core.Dec(e, d)
	if err != api.OK {
		return types.Mono(integer())
	}
	return s
}

// formed: an expression of the form that makes things of a type.
func (m *maker) formed(t api.Type, depth int, in scope) api.Exp {
	switch t.Kind {
	case api.TInt:
		return bin(chosen(m, api.OAdd, api.OSub, api.OMul, api.ODiv), m.expOf(integer(), depth-1, in), m.expOf(integer(), depth-1, in))
	case api.TBool:
		return bin(chosen(m, api.OEq, api.OLt), m.expOf(integer(), depth-1, in), m.expOf(integer(), depth-1, in))
	case api.TPair:
		return both(m.expOf(t.Kids[0], depth-1, in), m.expOf(t.Kids[1], depth-1, in))
	case api.TFn:
		p, l := m.patOf(t.Kids[0], 3)
		return fnOf(p, m.expOf(t.Kids[1], depth-1, in.with(l...)))
	case api.TStamp:
		if d, ok := datatype(t.N); ok {
			c := chosen(m, d.ctors...)
			x := made(d.at + c.Name)
			for _, arg := range c.Args {
				x = apply(x, m.expOf(arg, depth-1, in))
			}
			return x
		}
	}
	return m.least(t, depth, in)
}

// least: a small expression of a type.
func (m *maker) least(t api.Type, depth int, in scope) api.Exp {
	if l := m.fits(in, t); len(l) > 0 && m.Intn(4) > 0 {
		return id(chosen(m, l...))
	}
	switch t.Kind {
	case api.TInt:
		return num(int64(m.Intn(4)))
	case api.TBool:
		return ex(chosen(m, api.ETrue, api.EFalse))
	case api.TUnit:
		return ex(api.EUnit)
	case api.TPair:
		return both(m.least(t.Kids[0], depth-1, in), m.least(t.Kids[1], depth-1, in))
	case api.TFn:
		p, l := m.patOf(t.Kids[0], 1)
		return fnOf(p, m.least(t.Kids[1], depth-1, in.with(l...)))
	}
	switch t.N {
	case 1:
		return made("Nil")
	case 2:
		return made("Stop")
	case 3:
		return apply(made("Act"), m.least(fn(integer(), integer()), depth-1, in))
	case 4:
		return made(chosen(m, "M.Red", "M.Green", "M.Blue"))
	case 5:
		return made("M.N.Empty")
	case 7:
		return made("Dot")
	case other:
		return apply(id("M.mk"), num(int64(m.Intn(3))))
	}
	return id("h")
}

func (m *maker) choice(t api.Type, depth int, in scope) api.Exp {
	on := m.typeOf(2)
	x := caseOf(m.expOf(on, depth-1, in))
	for range 1 + m.Intn(3) {
		p, l := m.patOf(on, 4)
		x.Pats, x.Kids = append(x.Pats, p), append(x.Kids, m.expOf(t, depth-1, in.with(l...)))
	}
	return x
}

// patOf: a pattern of a type, and what it binds.
func (m *maker) patOf(t api.Type, depth int) (api.Pat, []local) {
	var l []local
	p := m.pattern(t, depth, &l)
	return p, l
}

func (m *maker) pattern(t api.Type, depth int, l *[]local) api.Pat {
	if depth <= 1 || m.Intn(4) == 0 {
		name := m.name()
		if m.Intn(4) == 0 || slices.ContainsFunc(*l, func(x local) bool { return x.name == name }) {
			return pat("_")
		}
		*l = append(*l, local{name, types.Mono(t)})
		return pvar(name)
	}
	switch t.Kind {
	case api.TInt:
		return api.Pat{Kind: api.PInt, N: int64(m.Intn(3))}
	case api.TBool:
		return api.Pat{Kind: chosen(m, api.PTrue, api.PFalse)}
	case api.TUnit:
		return pat("()")
	case api.TPair:
		a := m.pattern(t.Kids[0], depth-1, l)
		return ppair(a, m.pattern(t.Kids[1], depth-1, l))
	}
	if d, ok := datatype(t.N); ok && t.Kind == api.TStamp {
		c := chosen(m, d.ctors...)
		p := pat(d.at + c.Name)
		for _, arg := range c.Args {
			p.Kids = append(p.Kids, m.pattern(arg, depth-1, l))
		}
		return p
	}
	return m.pattern(t, 1, l)
}

// general: expressions and declarations that leave something open; LOCAL is a name that is bound around.
func (m *maker) general(in scope) api.Dec {
	d := dec(chosen(m,
		"val x = fn x => x", "val f = fn x => fn y => x", "val g = fn p => case p of (a, b) => (b, a) end", "fun f g x = g x", "fun comp f g x = f (g x)",
		"fun k x y = x", "val z = fn y => (y, LOCAL)", "fun h x = (LOCAL, fn y => (x, y))", "val y = (fn x => x, fn y => y)", "val z = M.dup",
		"val f = let val x = fn y => y in x end", "fun f x y = if x = 0 then y else f (x - 1) y", "val x = (fn x => x) (fn y => y)", "val g = M.dup (fn x => x)",
		"fun g x = let val y = x fun f z = (y, z) in (f 1, f true) end", "val y = fn (x, y) => let val f = fn z => (x, z) in f y end",
		"fun f x = let fun g y = f y in g x end", "fun f x = case x of Cons (y, z) => f z | _ => fn y => y end", "val f = (fn y => let val y = fn z => (y, z) in y y end)",
		"val x = fn f => fn x => let val y = f x in (y, LOCAL) end", "val x = Act (fn x => x)", "fun f x = stuck x"))
	near := "one"
	if len(in) > 0 {
		near = in[m.Intn(len(in))].name
	}
	for _, x := range expsOf(&d) {
		if x.Kind == api.ECon && len(x.Path) == 1 && x.Path[0] == "LOCAL" {
			*x = id(near)
		}
	}
	return d
}

// dec: a declaration that most often has a typing.
func (m *maker) dec(depth int, in scope) api.Dec {
	if m.Intn(3) == 0 {
		return m.general(in)
	}
	t := m.typeOf(3)
	if m.Intn(2) == 0 {
		d := val(m.name(), m.expOf(t, depth, in))
		if m.Intn(4) == 0 {
			d.Tys = []api.Ty{written(t)}
		}
		return d
	}
	d := api.Dec{Kind: api.DFun, Name: chosen(m, "f", "g", "h")}
	whole := t
	var l []local
	for range 1 + m.Intn(3) {
		name, from := chosen(m, "x", "y", "z", "one", "a", "b"), m.typeOf(2)
		if slices.Contains(d.Params, name) {
			continue
		}
		d.Params = slices.Insert(d.Params, 0, name)
		l, whole = append(l, local{name, types.Mono(from)}), fn(from, whole)
	}
	l = append([]local{{d.Name, types.Mono(whole)}}, l...)
	d.Exps = []api.Exp{m.expOf(t, depth, in.with(l...))}
	if m.Intn(4) == 0 {
		d.Tys = []api.Ty{written(t)}
	}
	return d
}

// expsOf: all expressions of a declaration, parts behind what they are parts of.
func expsOf(d *api.Dec) []*api.Exp {
	var l []*api.Exp
	var look func(x *api.Exp)
	var into func(d *api.Dec)
	look = func(x *api.Exp) {
		l = append(l, x)
		for i := range x.Decs {
			into(&x.Decs[i])
		}
		for i := range x.Kids {
			look(&x.Kids[i])
		}
	}
	into = func(d *api.Dec) {
		for i := range d.Exps {
			look(&d.Exps[i])
		}
	}
	into(d)
	return l
}

// patsOf: all patterns of an expression, parts behind what they are parts of.
func patsOf(x *api.Exp) []*api.Pat {
	var l []*api.Pat
	var look func(p *api.Pat)
	look = func(p *api.Pat) {
		l = append(l, p)
		for i := range p.Kids {
			look(&p.Kids[i])
		}
	}
	for i := range x.Pats {
		look(&x.Pats[i])
	}
	return l
}

// spoiled: a declaration in which something is another thing, so that it may have no typing, or has faults.
func (m *maker) spoiled(d api.Dec) api.Dec {
	d = tree.Copy([]api.Dec{d})[0]
	l := expsOf(&d)
	x := l[m.Intn(len(l))]
	switch m.Intn(12) {
	case 0:
		*x = id(chosen(m, "x", "y", "nope", "M.nope", "M.N.one", "one", "Q.x", "void"))
	case 1:
		*x = made(chosen(m, "Nope", "M.Nope", "Nil", "Cons", "M.Red", "Dot"))
	case 2:
		*x = ann(*x, ty(chosen(m, "int", "bool", "'a", "nope", "M.t -> int", "Q.t", "list", "int * 'b", "M.u")))
	case 3:
		*x = apply(*x, num(1))
	case 4:
		*x = fnOf(pat(chosen(m, "x", "(x, y)", "(x, (y, x))", "Cons x", "Cons", "M.N.Cons z", "Nope", "(Nope, true)", "Nil y")), *x)
	case 5:
		*x = both(*x, *x)
	case 6:
		*x = bin(chosen(m, api.OAdd, api.OLt), *x, num(2))
	case 7:
		if p := patsOf(x); len(p) > 0 {
			*p[m.Intn(len(p))] = pat(chosen(m, "x", "y", "1", "true", "(x, _)", "()", "M.Red", "Leaf x"))
		}
	case 8:
		*x = m.expOf(m.typeOf(2), 2, nil)
	case 9:
		if d.Kind == api.DFun {
			d.Params = append(d.Params, chosen(m, "x", "y", "q", d.Name))
		}
	case 10:
		d.Tys = []api.Ty{ty(chosen(m, "int", "'a", "nope", "hid", "list -> list"))}
	default:
		*x = apply(id(chosen(m, "ident", "x", "f", "M.dup")), *x)
	}
	return d
}

// someDec: a declaration by chance, right or not.
func (m *maker) someDec(depth int) api.Dec {
	d := m.dec(depth, nil)
	for m.Intn(3) == 0 {
		d = m.spoiled(d)
	}
	return d
}

// named: all names and paths that stand in a declaration.
func named(d api.Dec) map[string]struct{} {
	l := map[string]struct{}{}
	for _, x := range expsOf(&d) {
		l[names.Join(x.Path)] = struct{}{}
	}
	return l
}
