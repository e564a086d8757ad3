package modules_test

import (
	"math/rand"
	"slices"
	"strconv"

	"wafer/api"
	"wafer/env"
	"wafer/match"
	"wafer/types"
)

// maker: makes declarations by chance. Most mean something, since what means nothing is tried again; few names stand in them, so that much hides something.
type maker struct {
	*rand.Rand
	wrong int // one in so many choices is made without a look at what is there
	names int // how many names were made for what expressions bind
}

func newMaker(seed int64) *maker {
	return &maker{Rand: rand.New(rand.NewSource(seed)), wrong: []int{30, 200, 1000000}[seed%3]}
}

func chosen[T any](m *maker, l []T) T { return l[m.Intn(len(l))] }

func (m *maker) blind() bool { return m.Intn(m.wrong) == 0 }

func (m *maker) low() string { return chosen(m, []string{"x", "y", "z", "f", "g", "h"}) }

func (m *maker) typeName() string { return chosen(m, []string{"t", "u", "v", "w"}) }

func (m *maker) high() string { return chosen(m, []string{"A", "B", "C", "D", "E"}) }

func (m *maker) functorName() string { return chosen(m, []string{"F", "G", "H"}) }

func (m *maker) sigName() string { return chosen(m, []string{"S", "T", "U"}) }

func (m *maker) conName() string {
	return chosen(m, []string{"K", "L", "M", "N"}) + chosen(m, []string{"", "1", "2"})
}

// known: all that may be named in a place, by its paths.
type known struct {
	vals, cons, typs, subs, funs, sigs [][]string
}

func knownIn(e env.Env) *known {
	k := &known{}
	for _, x := range e.Vals {
		k.vals = append(k.vals, []string{x.Name})
	}
	for _, x := range e.Cons {
		k.cons = append(k.cons, []string{x.Name})
	}
	for _, x := range e.Typs {
		k.typs = append(k.typs, []string{x.Name})
	}
	for _, x := range e.Funs {
		k.funs = append(k.funs, []string{x.Name})
	}
	for _, x := range e.Sigs {
		k.sigs = append(k.sigs, []string{x.Name})
	}
	for i, x := range e.Subs {
		if !slices.ContainsFunc(e.Subs[i+1:], func(later env.Sub) bool { return later.Name == x.Name }) {
			k.within(x.S, []string{x.Name})
		}
	}
	return k
}

func (k *known) within(s api.Str, path []string) {
	under := func(name string) []string { return append(slices.Clone(path), name) }
	k.subs = append(k.subs, path)
	for _, x := range s.Types {
		k.typs = append(k.typs, under(x.Name))
		for _, c := range x.Ctors {
			k.cons = append(k.cons, under(c.Name))
		}
	}
	for _, x := range s.Vals {
		k.vals = append(k.vals, under(x.Name))
	}
	for _, x := range s.Funs {
		k.funs = append(k.funs, under(x.Name))
	}
	for _, x := range s.Sigs {
		k.sigs = append(k.sigs, under(x.Name))
	}
	for _, x := range s.Subs {
		k.within(x.S, under(x.Name))
	}
}

// anyPath: one of some paths, or one that may not be there.
func (m *maker) anyPath(l [][]string, name string) []string {
	if len(l) == 0 || m.blind() {
		return chosen(m, [][]string{{name}, {m.high(), name}, {m.high(), m.high(), name}})
	}
	return chosen(m, l)
}

// ty: how a type may be written in a place.
func (m *maker) ty(e env.Env, t api.Type) (api.Ty, bool) {
	var l [][]string
	for _, p := range knownIn(e).typs {
		if is, err := e.Typ(p); err == api.OK && types.Same(is.T, t) {
			l = append(l, p)
		}
	}
	if len(l) > 0 && (t.Kind == api.TStamp || m.Intn(2) == 0) {
		return api.Ty{Kind: api.YCon, Path: chosen(m, l)}, true
	}
	switch t.Kind {
	case api.TInt:
		return ycon("int"), true
	case api.TBool:
		return ycon("bool"), true
	case api.TUnit:
		return ycon("unit"), true
	case api.TGen:
		return api.Ty{Kind: api.YVar, Name: string(rune('a' + t.N))}, true
	case api.TFn, api.TPair:
		a, ok := m.ty(e, t.Kids[0])
		b, also := m.ty(e, t.Kids[1])
		kind := api.YFn
		if t.Kind == api.TPair {
			kind = api.YPair
		}
		return yboth(kind, a, b), ok && also
	}
	return api.Ty{}, false
}

// someType: a type of a place.
func (m *maker) someType(e env.Env, depth int) api.Type {
	if depth > 1 && m.Intn(3) == 0 {
		return node(chosen(m, []int{api.TFn, api.TPair}), 0, m.someType(e, depth-1), m.someType(e, depth-1))
	}
	if l := knownIn(e).typs; len(l) > 0 && m.Intn(4) > 0 {
		if t, err := e.Typ(chosen(m, l)); err == api.OK && types.Size(t.T) < 12 {
			return t.T
		}
	}
	return node(chosen(m, []int{api.TInt, api.TInt, api.TBool, api.TUnit}), 0)
}

// written: how some type of a place is written.
func (m *maker) written(e env.Env, depth int) api.Ty {
	t, ok := m.ty(e, m.someType(e, depth))
	if !ok || m.blind() {
		return api.Ty{Kind: api.YCon, Path: m.anyPath(knownIn(e).typs, m.typeName())}
	}
	return t
}

// exp: an expression of a type, if one is found.
func (m *maker) exp(e env.Env, t api.Type, depth int) (api.Exp, bool) {
	if depth > 1 {
		switch m.Intn(7) {
		case 0:
			if x, ok := m.look(e, t, depth); ok {
				return x, true
			}
		case 1:
			if x, ok := m.call(e, t, depth); ok {
				return x, true
			}
		case 2:
			b, _ := m.exp(e, boolean(), depth-1)
			x, ok := m.exp(e, t, depth-1)
			y, also := m.exp(e, t, depth-1)
			return ex(api.EIf, b, x, y), ok && also
		}
	}
	var l [][]string
	for _, p := range knownIn(e).vals {
		if is, err := e.Val(p); err == api.OK && types.Same(is.S.T, t) {
			l = append(l, p)
		}
	}
	if len(l) > 0 && m.Intn(3) > 0 {
		return api.Exp{Kind: api.EVar, Path: chosen(m, l)}, true
	}
	return m.literal(e, t, depth)
}

// look: a case of some value of a datatype.
func (m *maker) look(e env.Env, t api.Type, depth int) (api.Exp, bool) {
	l := knownIn(e).cons
	if len(l) == 0 {
		return api.Exp{}, false
	}
	path := chosen(m, l)
	c, err := e.Con(path)
	if err != api.OK {
		return api.Exp{}, false
	}
	what, ok := m.exp(e, c.T, depth-1)
	x := ex(api.ECase, what)
	for _, own := range c.All {
		at := append(slices.Clone(path[:len(path)-1]), own.Name)
		if is, err := e.Con(at); err != api.OK || !types.Same(is.T, c.T) || m.Intn(6) == 0 {
			continue
		}
		p, in := api.Pat{Kind: api.PCon, Path: at}, e
		for _, arg := range own.Args {
			name := m.bound()
			p.Kids = []api.Pat{pvar(name)}
			in = withVal(e, name, arg)
		}
		to, also := m.exp(in, t, depth-1)
		x.Pats, x.Kids, ok = append(x.Pats, p), append(x.Kids, to), ok && also
	}
	if len(x.Pats) == 0 || m.Intn(3) == 0 {
		to, also := m.exp(e, t, depth-1)
		x.Pats, x.Kids, ok = append(x.Pats, api.Pat{Kind: api.PAny}), append(x.Kids, to), ok && also
	}
	return x, ok
}

func (m *maker) bound() string {
	m.names++
	return "b" + strconv.Itoa(m.names)
}

func withVal(e env.Env, name string, t api.Type) env.Env {
	e.Vals = append(slices.Clip(e.Vals), env.Val{Name: name, S: types.Mono(t), X: v(name)})
	return e
}

// call: a function of the place that comes to the type, applied.
func (m *maker) call(e env.Env, t api.Type, depth int) (api.Exp, bool) {
	var l []api.Exp
	var from []api.Type
	for _, p := range knownIn(e).vals {
		if is, err := e.Val(p); err == api.OK && is.S.Gens == 0 && is.S.T.Kind == api.TFn && types.Same(is.S.T.Kids[1], t) {
			l, from = append(l, api.Exp{Kind: api.EVar, Path: p}), append(from, is.S.T.Kids[0])
		}
	}
	if len(l) == 0 {
		arg := m.someType(e, 2)
		name := m.bound()
		in, ok := m.exp(withVal(e, name, arg), t, depth-1)
		x, also := m.exp(e, arg, depth-1)
		return ex(api.EApp, fnOf(pvar(name), in), x), ok && also
	}
	i := m.Intn(len(l))
	x, ok := m.exp(e, from[i], depth-1)
	return ex(api.EApp, l[i], x), ok
}

func (m *maker) literal(e env.Env, t api.Type, depth int) (api.Exp, bool) {
	switch t.Kind {
	case api.TInt:
		if depth > 1 && m.Intn(3) == 0 {
			a, _ := m.exp(e, integer(), depth-1)
			b, _ := m.exp(e, integer(), depth-1)
			x := ex(api.EBin, a, b)
			x.Op = chosen(m, []int{api.OAdd, api.OAdd, api.OSub, api.OMul, api.ODiv})
			return x, a.Kind != 0 && b.Kind != 0
		}
		return num(int64(m.Intn(9))), true
	case api.TBool:
		return ex(chosen(m, []int{api.ETrue, api.EFalse})), true
	case api.TUnit:
		return ex(api.EUnit), true
	case api.TPair:
		a, ok := m.exp(e, t.Kids[0], depth-1)
		b, also := m.exp(e, t.Kids[1], depth-1)
		return ex(api.EPair, a, b), ok && also
	case api.TFn:
		name := m.bound()
		x, ok := m.exp(withVal(e, name, t.Kids[0]), t.Kids[1], depth-1)
		return fnOf(pvar(name), x), ok
	}
	var l []api.Exp
	var has []*api.Type
	for _, p := range knownIn(e).cons {
		if is, err := e.Con(p); err == api.OK && types.Same(is.T, t) {
			l, has = append(l, api.Exp{Kind: api.ECon, Path: p}), append(has, nil)
			if len(is.Args) > 0 {
				has[len(has)-1] = &is.Args[0]
			}
		}
	}
	if len(l) == 0 || depth < -2 {
		return api.Exp{}, false
	}
	i := m.Intn(len(l))
	if has[i] == nil {
		return l[i], true
	}
	x, ok := m.exp(e, *has[i], depth-1)
	return ex(api.EApp, l[i], x), ok
}

// decs: so many declarations in a place; nearly all of them are accepted. And the place behind them, without those that are not.
func (m *maker) decs(p place, count, depth int) ([]api.Dec, place) {
	var l []api.Dec
	for range count {
		for range 4 {
			d := m.dec(p, depth)
			next, err := p.with(d)
			if err == api.OK {
				l, p = append(l, d), next
				break
			}
			if m.blind() {
				return append(l, d), p
			}
		}
	}
	return l, p
}

func (m *maker) dec(p place, depth int) api.Dec {
	e, n := p.e, m.Intn(16)
	if depth <= 0 {
		n %= 10
	}
	switch {
	case n < 3:
		if l := knownIn(e).vals; len(l) > 0 && m.Intn(3) == 0 {
			return dval(m.low(), api.Exp{Kind: api.EVar, Path: chosen(m, l)})
		}
		x, ok := m.exp(e, m.someType(e, 3), 4)
		if !ok {
			x = id(m.low())
		}
		return dval(m.low(), x)
	case n < 5:
		name := m.low()
		from, to := m.someType(e, 2), m.someType(e, 2)
		param := m.bound()
		x, ok := m.exp(withVal(withVal(e, name, fn(from, to)), param, from), to, 4)
		if !ok {
			x = id(param)
		}
		d := api.Dec{Kind: api.DFun, Name: name, Params: []string{param}, Exps: []api.Exp{x}}
		if m.Intn(3) == 0 {
			d.Params = append(d.Params, m.bound())
		}
		return d
	case n < 7:
		return dtype(m.typeName(), m.written(e, 2))
	case n < 9:
		return m.data(p, m.typeName())
	case n < 10:
		return dsig(m.sigName(), m.sig(e, m.some(e), 2))
	case n < 12 && depth > 1:
		return m.functor(p, depth)
	}
	return dstr(m.high(), m.mod(p, depth-1))
}

func (m *maker) data(p place, name string) api.Dec {
	d := ddata(name)
	of := copied(p.e)
	of.Typs = append(of.Typs, env.Typ{Name: name, T: stamp(p.next)})
	for i := range 1 + m.Intn(3) {
		c := con(m.conName() + chosen(m, []string{"", "x", "y"}))
		if m.Intn(2) == 0 && (i > 0 || m.Intn(4) == 0) {
			c.Tys = append(c.Tys, m.written(of, 2))
		}
		d.Cons = append(d.Cons, c)
	}
	return d
}

// some: what some structure of the place has.
func (m *maker) some(e env.Env) api.Str {
	l := knownIn(e).subs
	if len(l) == 0 {
		return str(typ("t", integer()), val("x", integer()), poly("f", 1, fn(gen(0), gen(0))))
	}
	s, _ := e.Sub(chosen(m, l))
	return s.S
}

func (m *maker) functor(p place, depth int) api.Dec {
	d := dfunctor(m.functorName(), m.high(), m.sig(p.e, m.some(p.e), 2), api.Mod{})
	in, err := p.functorEnv(d)
	if err != api.OK {
		d.Mods[0] = structure()
		return d
	}
	in.a = api.Abs{}
	d.Mods[0] = m.mod(in, depth-1)
	return d
}

// sig: a signature that a structure meets, in a place where its types may be named or not.
func (m *maker) sig(e env.Env, s api.Str, depth int) api.Sig {
	if l := knownIn(e).sigs; len(l) > 0 && m.Intn(4) == 0 || m.blind() {
		return api.Sig{Kind: api.SPath, Path: m.anyPath(l, m.sigName())}
	}
	g := specs()
	in := copied(e)
	var free []api.TyMember
	for _, t := range s.Types {
		if m.Intn(4) == 0 {
			continue
		}
		spec, ok := m.typeSpec(in, t)
		if !ok {
			continue
		}
		if spec.Kind == api.CType && len(spec.Tys) == 0 {
			free = append(free, t)
		}
		g.Specs = append(g.Specs, spec)
		in.Typs = append(in.Typs, env.Typ{Name: t.Name, T: t.T})
	}
	if depth > 0 {
		for _, x := range s.Subs {
			if m.Intn(3) > 0 {
				g.Specs = append(g.Specs, api.Spec{Kind: api.CStr, Name: x.Name, Sigs: []api.Sig{m.sig(in, x.S, depth-1)}})
				in.Subs = append(in.Subs, env.Sub{Name: x.Name, S: x.S})
			}
		}
	}
	for _, x := range s.Vals {
		t := x.S.T
		if x.S.Gens > 0 && m.Intn(3) == 0 {
			for i := range x.S.Gens {
				t, _ = types.Replace(t, api.TGen, ints(i), []api.Type{integer()})
			}
		}
		written, ok := m.ty(in, t)
		if ok && m.Intn(4) > 0 {
			g.Specs = append(g.Specs, api.Spec{Kind: api.CVal, Name: x.Name, Tys: []api.Ty{written}})
		}
	}
	if len(free) > 0 && m.Intn(5) == 0 {
		t := chosen(m, free)
		if written, ok := m.ty(e, t.T); ok {
			g = api.Sig{Kind: api.SWhere, Sigs: []api.Sig{g}, Path: []string{t.Name}, Tys: []api.Ty{written}}
		}
	}
	return g
}

// typeSpec: a type of a structure, as a signature may tell it.
func (m *maker) typeSpec(e env.Env, t api.TyMember) (api.Spec, bool) {
	if len(t.Ctors) > 0 && m.Intn(2) == 0 {
		spec := api.Spec{Kind: api.CData, Name: t.Name}
		e = copied(e)
		e.Typs = append(e.Typs, env.Typ{Name: t.Name, T: t.T})
		for _, c := range t.Ctors {
			own := con(c.Name)
			for _, arg := range c.Args {
				written, ok := m.ty(e, arg)
				if !ok {
					return spec, false
				}
				own.Tys = append(own.Tys, written)
			}
			spec.Cons = append(spec.Cons, own)
		}
		return spec, true
	}
	spec := api.Spec{Kind: api.CType, Name: t.Name}
	if m.Intn(3) == 0 {
		if written, ok := m.ty(e, t.T); ok {
			spec.Tys = []api.Ty{written}
		}
	}
	return spec, true
}

func (m *maker) mod(p place, depth int) api.Mod {
	k := knownIn(p.e)
	switch n := m.Intn(12); {
	case n < 2 && len(k.subs) > 0 || m.blind():
		return api.Mod{Kind: api.MPath, Path: m.anyPath(k.subs, m.high())}
	case n < 5 && len(k.funs) > 0:
		return m.application(p, k, depth)
	case n < 8 && depth > 0:
		inner := m.mod(p, depth-1)
		is, err := plainMod(p.e, inner, p.next)
		if err != api.OK {
			return inner
		}
		return behind(chosen(m, []int{api.MSeal, api.MSeal, api.MAsc}), inner, m.sig(p.e, is.a.S, 2))
	case n < 9 && depth > 0:
		l, in := m.decs(place{e: p.e, next: p.next}, 1+m.Intn(3), depth)
		return letMod(l, m.mod(in, depth-1))
	}
	l, _ := m.decs(place{e: p.e, next: p.next}, m.Intn(6), depth)
	return structure(l...)
}

// application: a functor with an argument: one that is there, or one that is made for it.
func (m *maker) application(p place, k *known, depth int) api.Mod {
	path := m.anyPath(k.funs, m.functorName())
	f, err := p.e.Fun(path)
	if err != api.OK {
		return api.Mod{Kind: api.MApp, Path: path, Mods: []api.Mod{structure()}}
	}
	var l [][]string
	for _, at := range k.subs {
		s, _ := p.e.Sub(at)
		if _, err := match.Match(s.S, api.Abs{Stamps: f.F.Stamps, S: f.F.Arg}); err == api.OK {
			l = append(l, at)
		}
	}
	arg := m.implement(p, f.F.Arg)
	if len(l) > 0 && m.Intn(2) == 0 {
		arg = api.Mod{Kind: api.MPath, Path: chosen(m, l)}
	}
	return api.Mod{Kind: api.MApp, Path: path, Mods: []api.Mod{arg}}
}

// implement: a structure that has what is asked, if one is found. Types that are asked stand in sim under their names.
func (m *maker) implement(p place, asks api.Str) api.Mod {
	return structure(m.implemented(place{e: p.e, next: p.next}, copied(p.e), asks)...)
}

func (m *maker) implemented(p place, sim env.Env, asks api.Str) []api.Dec {
	var l []api.Dec
	add := func(d api.Dec) {
		if next, err := p.with(d); err == api.OK {
			l, p = append(l, d), next
		}
	}
	for _, t := range asks.Types {
		d := dtype(t.Name, m.written(p.e, 2))
		if written, ok := m.ty(sim, t.T); ok {
			d = dtype(t.Name, written)
		} else if len(t.Ctors) == 0 && m.Intn(3) == 0 {
			d = m.data(p, t.Name)
		}
		sim.Typs = append(sim.Typs, env.Typ{Name: t.Name, T: t.T})
		if len(t.Ctors) > 0 && d.Kind == api.DType {
			d = ddata(t.Name)
			for _, c := range t.Ctors {
				own := con(c.Name)
				for _, arg := range c.Args {
					written, _ := m.ty(sim, arg)
					own.Tys = append(own.Tys, written)
				}
				d.Cons = append(d.Cons, own)
			}
		}
		add(d)
	}
	for _, x := range asks.Subs {
		add(dstr(x.Name, structure(m.implemented(place{e: p.e, next: p.next}, copied(sim), x.S)...)))
		sim.Subs = append(sim.Subs, env.Sub{Name: x.Name, S: x.S})
	}
	for _, x := range asks.Vals {
		written, ok := m.ty(sim, x.S.T)
		if !ok {
			continue
		}
		s, err := p.e.Scheme(written)
		if err != api.OK {
			continue
		}
		if x.S.Gens > 0 {
			add(dval(x.Name, fnOf(pvar("a"), id("a"))))
			continue
		}
		if is, ok := m.exp(p.e, s.T, 3); ok {
			add(dval(x.Name, is))
		}
	}
	if m.Intn(2) == 0 {
		add(dval(m.low(), num(5)))
	}
	return l
}

// program: declarations in a place, of which one may be spoiled, or stand without a look at it.
func (m *maker) program(p place, count, depth int) []api.Dec {
	l, in := m.decs(p, count, depth)
	switch m.Intn(7) {
	case 0:
		return append(l, m.dec(in, depth))
	case 1, 2:
		if len(l) > 0 {
			l = roomy(l)
			m.spoilDec(&l[m.Intn(len(l))])
		}
	}
	return l
}

// spoilDec: one thing in a declaration made otherwise; it stays right.
func (m *maker) spoilDec(d *api.Dec) {
	switch {
	case len(d.Mods) > 0 && m.Intn(4) > 0:
		m.spoilMod(&d.Mods[0])
	case len(d.Sigs) > 0 && m.Intn(2) > 0:
		m.spoilSig(&d.Sigs[0])
	case len(d.Tys) > 0:
		d.Tys[0] = m.anyTy()
	case len(d.Exps) > 0 && m.Intn(3) > 0:
		d.Exps[0] = chosen(m, []api.Exp{id(m.low()), num(3), ex(api.ETrue), {Kind: api.ECon, Path: []string{m.conName()}}, id(m.high() + "." + m.low()), ex(api.EIf, d.Exps[0], num(1), num(2)), ex(api.EPair, d.Exps[0], ex(api.EApp, num(1), d.Exps[0]))})
	case len(d.Cons) > 0 && m.Intn(3) > 0:
		d.Cons = append(d.Cons, con(m.conName(), m.anyTy()), chosen(m, d.Cons))
	case d.Kind == api.DVal || d.Kind == api.DFun:
		d.Name = m.low()
	case d.Kind == api.DType || d.Kind == api.DData:
		d.Name = m.typeName()
	default:
		d.Name = chosen(m, []string{m.high(), m.functorName(), m.sigName()})
	}
}

func (m *maker) spoilMod(x *api.Mod) {
	switch {
	case len(x.Decs) > 0 && m.Intn(3) > 0:
		m.spoilDec(&x.Decs[m.Intn(len(x.Decs))])
	case len(x.Mods) > 0 && m.Intn(3) > 0:
		m.spoilMod(&x.Mods[0])
	case len(x.Sigs) > 0:
		m.spoilSig(&x.Sigs[0])
	case len(x.Path) > 0:
		x.Path[m.Intn(len(x.Path))] = chosen(m, []string{m.high(), m.functorName()})
	default:
		*x = chosen(m, []api.Mod{at(m.high()), structure(), applied(m.functorName(), structure()), applied(m.functorName(), at(m.high()))})
	}
}

func (m *maker) spoilSig(g *api.Sig) {
	switch {
	case len(g.Specs) > 0:
		s := &g.Specs[m.Intn(len(g.Specs))]
		switch {
		case len(s.Sigs) > 0:
			m.spoilSig(&s.Sigs[0])
		case len(s.Tys) > 0:
			s.Tys[0] = m.anyTy()
		case s.Kind == api.CType:
			s.Tys = []api.Ty{m.anyTy()}
		default:
			s.Name = m.typeName()
		}
	case g.Kind == api.SWhere && m.Intn(2) == 0:
		g.Tys[0] = m.anyTy()
	default:
		*g = api.Sig{Kind: api.SPath, Path: []string{m.sigName()}}
	}
}

// anyTy: a type as it is written, which may mean nothing.
func (m *maker) anyTy() api.Ty {
	return chosen(m, []api.Ty{ycon("int"), ycon("bool"), ycon(m.typeName()), ycon(m.high() + "." + m.typeName()), yboth(api.YFn, ycon(m.typeName()), ycon("int")), {Kind: api.YVar, Name: "a"}})
}
