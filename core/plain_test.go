package core_test

import (
	"slices"

	"wafer/api"
	"wafer/env"
	"wafer/tree"
	"wafer/types"
)

// plain: a second typing by the chapter's words: all that must be the same is gathered as pairs, which are solved at the end; a name with a scheme is typed anew, in the surroundings of its declaration, wherever it stands, so that nothing has to be left open.
type plain struct {
	e     env.Env
	metas int
	pairs [][2]api.Type
	all   []api.Type // the types of all expressions, patterns and names
	again int        // how many declarations are being typed again, of whose parts no more is asked
	fails bool
}

// most: a declaration of which more metas come is not gone through, since names are typed again and again.
const most = 30000

// known: a name that is bound, and its type each time.
type known struct {
	name string
	t    func() api.Type
}

type surroundings []known

func (s surroundings) with(name string, t func() api.Type) surroundings {
	return append(slices.Clip(s), known{name, t})
}

func (s surroundings) mono(name string, t api.Type) surroundings {
	return s.with(name, func() api.Type { return t })
}

func (s surroundings) look(name string) (func() api.Type, bool) {
	for i := len(s) - 1; i >= 0; i-- {
		if s[i].name == name {
			return s[i].t, true
		}
	}
	return nil, false
}

type tooMuch struct{}

func (o *plain) meta() api.Type {
	o.metas++
	if o.metas > most {
		panic(tooMuch{})
	}
	return meta(o.metas)
}

func (o *plain) same(a, b api.Type) { o.pairs = append(o.pairs, [2]api.Type{a, b}) }

func (o *plain) told(t api.Type) api.Type {
	if o.again == 0 {
		o.all = append(o.all, t)
	}
	return t
}

func (o *plain) written(t api.Ty) api.Type {
	is, err := o.e.Type(t)
	o.fails = o.fails || err != api.OK
	return is
}

func (o *plain) instance(s api.Scheme) api.Type {
	l := make([]api.Type, s.Gens)
	for i := range l {
		l[i] = o.meta()
	}
	var put func(t api.Type) api.Type
	put = func(t api.Type) api.Type {
		if t.Kind == api.TGen {
			return l[t.N]
		}
		out := node(t.Kind, t.N)
		for _, kid := range t.Kids {
			out.Kids = append(out.Kids, put(kid))
		}
		return out
	}
	return put(s.T)
}

func (o *plain) exp(x api.Exp, in surroundings) api.Type { return o.told(o.expOf(x, in)) }

func (o *plain) expOf(x api.Exp, in surroundings) api.Type {
	switch x.Kind {
	case api.EInt:
		return integer()
	case api.ETrue, api.EFalse:
		return boolean()
	case api.EUnit:
		return unit()
	case api.EVar:
		if t, ok := in.look(x.Path[0]); ok && len(x.Path) == 1 {
			return t()
		}
		v, _ := o.e.Val(x.Path)
		return o.instance(v.S)
	case api.ECon:
		c, _ := o.e.Con(x.Path)
		if len(c.Args) > 0 {
			return fn(c.Args[0], c.T)
		}
		return c.T
	case api.EFn:
		p, in := o.pat(x.Pats[0], in)
		return fn(p, o.exp(x.Kids[0], in))
	case api.EApp:
		whole := o.meta()
		f := o.exp(x.Kids[0], in)
		o.same(f, fn(o.exp(x.Kids[1], in), whole))
		return whole
	case api.EPair:
		a := o.exp(x.Kids[0], in)
		return pair(a, o.exp(x.Kids[1], in))
	case api.ELet:
		for _, d := range x.Decs {
			in = in.with(d.Name, o.dec(d, in))
		}
		return o.exp(x.Kids[0], in)
	case api.EIf:
		o.same(o.exp(x.Kids[0], in), boolean())
		a := o.exp(x.Kids[1], in)
		o.same(a, o.exp(x.Kids[2], in))
		return a
	case api.ECase:
		on, whole := o.exp(x.Kids[0], in), o.meta()
		for i, p := range x.Pats {
			t, in := o.pat(p, in)
			o.same(t, on)
			o.same(o.exp(x.Kids[i+1], in), whole)
		}
		return whole
	case api.EBin:
		o.same(o.exp(x.Kids[0], in), integer())
		o.same(o.exp(x.Kids[1], in), integer())
		if x.Op == api.OEq || x.Op == api.OLt {
			return boolean()
		}
		return integer()
	case api.EAnn:
		t := o.written(x.Tys[0])
		o.same(o.exp(x.Kids[0], in), t)
		return t
	}
	panic("another kind")
}

func (o *plain) pat(p api.Pat, in surroundings) (api.Type, surroundings) {
	t, in := o.patOf(p, in)
	return o.told(t), in
}

func (o *plain) patOf(p api.Pat, in surroundings) (api.Type, surroundings) {
	switch p.Kind {
	case api.PVar:
		t := o.meta()
		return t, in.mono(p.Name, t)
	case api.PInt:
		return integer(), in
	case api.PTrue, api.PFalse:
		return boolean(), in
	case api.PUnit:
		return unit(), in
	case api.PPair:
		a, in := o.pat(p.Kids[0], in)
		b, in := o.pat(p.Kids[1], in)
		return pair(a, b), in
	case api.PCon:
		c, _ := o.e.Con(p.Path)
		if len(c.Args) != len(p.Kids) {
			o.fails = true
			return c.T, in
		}
		for i, kid := range p.Kids {
			var t api.Type
			t, in = o.pat(kid, in)
			o.same(t, c.Args[i])
		}
		return c.T, in
	}
	return o.meta(), in
}

// dec: the type of what a declaration binds, each time.
func (o *plain) dec(d api.Dec, in surroundings) func() api.Type {
	first := o.typed(d, in)
	if d.Kind == api.DVal && !plainValue(d.Exps[0]) {
		return func() api.Type { return first }
	}
	return func() api.Type {
		o.again++
		defer func() { o.again-- }()
		return o.typed(d, in)
	}
}

func (o *plain) typed(d api.Dec, in surroundings) api.Type {
	if d.Kind == api.DVal {
		t := o.exp(d.Exps[0], in)
		for _, w := range d.Tys {
			o.same(t, o.written(w))
		}
		return t
	}
	result := o.meta()
	for _, w := range d.Tys {
		o.same(result, o.written(w))
	}
	whole, from := result, make([]api.Type, len(d.Params))
	for i := len(from) - 1; i >= 0; i-- {
		from[i] = o.meta()
		whole = fn(from[i], whole)
	}
	in = in.mono(d.Name, o.told(whole))
	for i, name := range d.Params {
		in = in.mono(name, from[i])
	}
	o.same(o.exp(d.Exps[0], in), result)
	return whole
}

func plainValue(x api.Exp) bool {
	switch x.Kind {
	case api.EPair:
		return plainValue(x.Kids[0]) && plainValue(x.Kids[1])
	case api.EApp:
		return x.Kids[0].Kind == api.ECon && plainValue(x.Kids[1])
	case api.EAnn:
		return plainValue(x.Kids[0])
	case api.ELet, api.EIf, api.ECase, api.EBin:
		return false
	}
	return true
}

// solution: what metas are.
type solution map[int]api.Type

func (s solution) head(t api.Type) api.Type {
	for t.Kind == api.TMeta {
		is, ok := s[t.N]
		if !ok {
			return t
		}
		t = is
	}
	return t
}

func (s solution) has(t api.Type, n int) bool {
	t = s.head(t)
	return t.Kind == api.TMeta && t.N == n || slices.ContainsFunc(t.Kids, func(kid api.Type) bool { return s.has(kid, n) })
}

func (s solution) solve(a, b api.Type) bool {
	a, b = s.head(a), s.head(b)
	switch {
	case a.Kind == api.TMeta && b.Kind == api.TMeta && a.N == b.N:
		return true
	case a.Kind == api.TMeta:
		if s.has(b, a.N) {
			return false
		}
		s[a.N] = b
		return true
	case b.Kind == api.TMeta:
		return s.solve(b, a)
	}
	if a.Kind != b.Kind || a.N != b.N || len(a.Kids) != len(b.Kids) {
		return false
	}
	for i := range a.Kids {
		if !s.solve(a.Kids[i], b.Kids[i]) {
			return false
		}
	}
	return true
}

func (s solution) put(t api.Type) api.Type {
	t = s.head(t)
	out := node(t.Kind, t.N)
	for _, kid := range t.Kids {
		out.Kids = append(out.Kids, s.put(kid))
	}
	return out
}

// size: the nodes of a type with all put in, MaxType + 1 if they are more than MaxType.
func (s solution) size(t api.Type, of map[int]int) int {
	if t.Kind == api.TMeta {
		if n, ok := of[t.N]; ok {
			return n
		}
		is, ok := s[t.N]
		if !ok {
			return 1
		}
		of[t.N] = s.size(is, of)
		return of[t.N]
	}
	nodes := 1
	for _, kid := range t.Kids {
		nodes += s.size(kid, of)
	}
	return min(nodes, api.MaxType+1)
}

// plainDec: what Dec answers by the chapter's words, as answer tells it; false, if that would be too much.
func plainDec(e env.Env, d api.Dec) (is string, ok bool) {
	defer func() {
		if r := recover(); r != nil {
			if _, much := r.(tooMuch); !much {
				panic(r)
			}
			is, ok = "", false
		}
	}()
	if d.Kind != api.DVal && d.Kind != api.DFun {
		return "ErrArg", true
	}
	if _, err := tree.Right([]api.Dec{d}); err != api.OK {
		return code(err), true
	}
	f := faults{e: e}
	f.dec(d, nil)
	switch {
	case f.twice:
		return "ErrTwice", true
	case f.unbound:
		return "ErrUnbound", true
	case f.tyvar:
		return "ErrTyvar", true
	}
	o := plain{e: e}
	t := o.typed(d, nil)
	s := solution{}
	for _, p := range o.pairs {
		if !s.solve(p[0], p[1]) {
			return "ErrType", true
		}
	}
	sizes := map[int]int{}
	if o.fails || slices.ContainsFunc(o.all, func(t api.Type) bool { return s.size(t, sizes) > api.MaxType }) {
		return "ErrType", true
	}
	t = s.put(t)
	metas := types.Metas(t)
	if d.Kind == api.DVal && !plainValue(d.Exps[0]) && len(metas) > 0 {
		return "ErrFree", true
	}
	by := make(solution)
	for i, n := range metas {
		by[n] = gen(i)
	}
	return types.Text(by.put(t)), true
}

// faults: what is asked ahead of types, each by itself.
type faults struct {
	e                     env.Env
	twice, unbound, tyvar bool
}

func repeats(l []string) bool {
	for i, name := range l {
		if slices.Contains(l[:i], name) {
			return true
		}
	}
	return false
}

func (f *faults) ty(t api.Ty) {
	word := len(t.Path) == 1 && slices.Contains([]string{"int", "bool", "unit"}, t.Path[0])
	if t.Kind == api.YCon && !word {
		_, err := f.e.Typ(t.Path)
		f.unbound = f.unbound || err != api.OK
	}
	f.tyvar = f.tyvar || t.Kind == api.YVar
	for _, kid := range t.Kids {
		f.ty(kid)
	}
}

func (f *faults) pat(p api.Pat) []string {
	if p.Kind == api.PVar {
		return []string{p.Name}
	}
	if p.Kind == api.PCon {
		_, err := f.e.Con(p.Path)
		f.unbound = f.unbound || err != api.OK
	}
	var l []string
	for _, kid := range p.Kids {
		l = append(l, f.pat(kid)...)
	}
	return l
}

func (f *faults) exp(x api.Exp, in []string) {
	in = slices.Clip(in)
	switch x.Kind {
	case api.EVar:
		if _, err := f.e.Val(x.Path); err != api.OK && !(len(x.Path) == 1 && slices.Contains(in, x.Path[0])) {
			f.unbound = true
		}
	case api.ECon:
		_, err := f.e.Con(x.Path)
		f.unbound = f.unbound || err != api.OK
	}
	for _, t := range x.Tys {
		f.ty(t)
	}
	for _, d := range x.Decs {
		f.dec(d, in)
		in = append(in, d.Name)
	}
	for i, kid := range x.Kids {
		own := in
		at := i
		if x.Kind == api.ECase {
			at--
		}
		if at >= 0 && at < len(x.Pats) {
			l := f.pat(x.Pats[at])
			f.twice = f.twice || repeats(l)
			own = append(own, l...)
		}
		f.exp(kid, own)
	}
}

func (f *faults) dec(d api.Dec, in []string) {
	in = slices.Clip(in)
	for _, t := range d.Tys {
		f.ty(t)
	}
	if d.Kind == api.DFun {
		l := append([]string{d.Name}, d.Params...)
		f.twice = f.twice || repeats(l)
		in = append(in, l...)
	}
	f.exp(d.Exps[0], in)
}
