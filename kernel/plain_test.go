package kernel_test

import (
	"slices"

	"wafer/api"
	"wafer/kernel"
	"wafer/target"
)

// bare: a type in which no number is bound: in its place stands how many binders are nearer than its own one. It is told by the chapter's words, beside the kernel and without what target says of numbers that are bound.
type bare struct {
	kind   int
	free   bool // of a GVar: n is a number that nothing binds
	n      int
	labels []string
	kids   []*bare
	nodes  int  // at most MaxTT + 1
	loose  int  // how many binders around it are needed
	plain  bool // there is no GVar in it
}

func newBare(b bare) *bare {
	b.nodes, b.plain = 1, b.kind != api.GVar
	if b.kind == api.GVar && !b.free {
		b.loose = b.n + 1
	}
	for _, kid := range b.kids {
		b.nodes = min(b.nodes+kid.nodes, kernel.MaxTT+1)
		need := kid.loose
		if bindsOne(b.kind) {
			need--
		}
		b.loose = max(b.loose, need)
		b.plain = b.plain && kid.plain
	}
	return &b
}

func bindsOne(kind int) bool { return kind == api.GMu || kind == api.GAll || kind == api.GEx }

func bareOf(t api.TT, outer []int) *bare { return bareKnown(t, outer, map[*api.TT]*bare{}) }

// bareKnown: the same, with those known already that have no GVar, by where their Kids are: a great type may be made of few lists.
func bareKnown(t api.TT, outer []int, known map[*api.TT]*bare) *bare {
	if len(t.Kids) > 0 && known[&t.Kids[0]] != nil && known[&t.Kids[0]].kind == t.Kind {
		return known[&t.Kids[0]]
	}
	b := bare{kind: t.Kind, labels: t.Labels}
	if t.Kind == api.GVar {
		b.free, b.n = true, t.N
		for i, n := range slices.Backward(outer) {
			if n == t.N {
				b.free, b.n = false, len(outer)-1-i
				break
			}
		}
	}
	if bindsOne(t.Kind) {
		outer = append(slices.Clip(outer), t.N)
	}
	for _, kid := range t.Kids {
		b.kids = append(b.kids, bareKnown(kid, outer, known))
	}
	out := newBare(b)
	if out.plain && len(t.Kids) > 0 {
		known[&t.Kids[0]] = out
	}
	return out
}

func (b *bare) same(c *bare) bool {
	if b == c {
		return true
	}
	if b.kind != c.kind || b.free != c.free || b.n != c.n || b.nodes != c.nodes || !slices.Equal(b.labels, c.labels) {
		return false
	}
	return slices.EqualFunc(b.kids, c.kids, (*bare).same)
}

// with: what b is with a type in place of what the outermost binder, which is taken away, bound.
func (b *bare) with(by *bare, depth int) *bare {
	if b.loose <= depth {
		return b
	}
	if b.kind == api.GVar {
		return by
	}
	if bindsOne(b.kind) {
		depth++
	}
	out := *b
	out.kids = nil
	for _, kid := range b.kids {
		out.kids = append(out.kids, kid.with(by, depth))
	}
	return newBare(out)
}

// bound: b with a binder around it that binds the free number n.
func (b *bare) bound(n, depth int) *bare {
	if b.plain {
		return b
	}
	if b.kind == api.GVar && b.free && b.n == n {
		return newBare(bare{kind: api.GVar, n: depth})
	}
	if bindsOne(b.kind) {
		depth++
	}
	out := *b
	out.kids = nil
	for _, kid := range b.kids {
		out.kids = append(out.kids, kid.bound(n, depth))
	}
	return newBare(out)
}

func (b *bare) freeIn(n int) bool {
	return b.kind == api.GVar && b.free && b.n == n || !b.plain && slices.ContainsFunc(b.kids, func(kid *bare) bool { return kid.freeIn(n) })
}

func (b *bare) within(vars []int) bool {
	if b.kind == api.GVar && b.free {
		return slices.Contains(vars, b.n)
	}
	return b.plain || !slices.ContainsFunc(b.kids, func(kid *bare) bool { return !kid.within(vars) })
}

func leaf(kind int) *bare { return newBare(bare{kind: kind}) }

// hold: a name with its type.
type hold struct {
	name string
	t    *bare
}

// around: the surroundings of a term; they are never changed, but longer ones made.
type around struct {
	vars  []int
	names []hold
}

func (a around) name(name string, t *bare) around {
	a.names = append(slices.Clip(a.names), hold{name, t})
	return a
}

func (a around) number(n int) around {
	a.vars = append(slices.Clip(a.vars), n)
	return a
}

// plainCheck: what Check must answer.
func plainCheck(m api.TM, vars []int, l []kernel.Bind) (*bare, api.Errno) {
	if e := target.RightTerm(m); e != api.OK {
		return nil, e
	}
	a := around{vars: vars}
	for _, b := range l {
		a = a.name(b.Name, bareOf(b.T, nil))
	}
	return a.typeOf(m)
}

// typeOf: a term's type, or the first error that is met; its own size is asked for at the end.
func (a around) typeOf(m api.TM) (*bare, api.Errno) {
	var named []*bare
	for _, t := range m.Types {
		b := bareOf(t, nil)
		if !b.within(a.vars) {
			return nil, api.ErrTarget
		}
		named = append(named, b)
	}
	if !ahead(m, named, a.vars) {
		return nil, api.ErrTarget
	}
	if m.Kind == api.XFix && named[0].nodes+named[1].nodes+1 > kernel.MaxTT {
		return nil, api.ErrBig
	}
	var kids []*bare
	for i, kid := range m.Kids {
		inner, ok := a.inside(m, named, kids, i)
		if !ok {
			return nil, api.ErrTarget
		}
		b, e := inner.typeOf(kid)
		if e != api.OK {
			return nil, e
		}
		kids = append(kids, b)
	}
	t, e := a.together(m, named, kids)
	if e == api.OK && t.nodes > kernel.MaxTT {
		e = api.ErrBig
	}
	if e != api.OK {
		return nil, e
	}
	return t, api.OK
}

// ahead: what must be of the types that a term names, and of the number that XAll binds.
func ahead(m api.TM, named []*bare, vars []int) bool {
	switch m.Kind {
	case api.XInj:
		return named[0].kind == api.GSum && m.N < len(named[0].kids)
	case api.XFold:
		return named[0].kind == api.GMu
	case api.XPack:
		return named[1].kind == api.GEx
	case api.XAll:
		return !slices.Contains(vars, m.N)
	}
	return true
}

// inside: the surroundings of a Kid, with those ahead of it typed; false, if it has none.
func (a around) inside(m api.TM, named, kids []*bare, i int) (around, bool) {
	switch {
	case m.Kind == api.XLam:
		return a.name(m.Name, named[0]), true
	case m.Kind == api.XFix:
		whole := newBare(bare{kind: api.GFn, kids: named})
		return a.name(m.Name, whole).name(m.Labels[0], named[0]), true
	case m.Kind == api.XLet && i == 1:
		return a.name(m.Name, kids[0]), true
	case m.Kind == api.XCase && i >= 1:
		if kids[0].kind != api.GSum || len(kids[0].kids) != len(m.Labels) {
			return a, false
		}
		return a.name(m.Labels[i-1], kids[0].kids[i-1]), true
	case m.Kind == api.XAll:
		return a.number(m.N), true
	case m.Kind == api.XOpen && i == 1:
		if kids[0].kind != api.GEx || slices.Contains(a.vars, m.N) {
			return a, false
		}
		return a.number(m.N).name(m.Name, kids[0].kids[0].with(newBare(bare{kind: api.GVar, free: true, n: m.N}), 0)), true
	}
	return a, true
}

// together: the type of a term whose Kids have types, or what must be of those and is not.
func (a around) together(m api.TM, named, kids []*bare) (*bare, api.Errno) {
	when := func(ok bool, t *bare) (*bare, api.Errno) {
		if !ok {
			return nil, api.ErrTarget
		}
		return t, api.OK
	}
	is := func(i, kind int) bool { return kids[i].kind == kind }
	switch m.Kind {
	case api.XInt:
		return leaf(api.GInt), api.OK
	case api.XBool:
		return leaf(api.GBool), api.OK
	case api.XUnit:
		return leaf(api.GUnit), api.OK
	case api.XVar:
		for _, h := range slices.Backward(a.names) {
			if h.name == m.Name {
				return h.t, api.OK
			}
		}
		return nil, api.ErrTarget
	case api.XLam:
		return newBare(bare{kind: api.GFn, kids: []*bare{named[0], kids[0]}}), api.OK
	case api.XApp:
		if !is(0, api.GFn) {
			return nil, api.ErrTarget
		}
		return when(kids[0].kids[0].same(kids[1]), kids[0].kids[1])
	case api.XFix:
		return when(kids[0].same(named[1]), newBare(bare{kind: api.GFn, kids: named}))
	case api.XPair:
		return newBare(bare{kind: api.GPair, kids: kids}), api.OK
	case api.XFst, api.XSnd:
		if !is(0, api.GPair) {
			return nil, api.ErrTarget
		}
		return kids[0].kids[m.Kind-api.XFst], api.OK
	case api.XIf:
		return when(is(0, api.GBool) && kids[1].same(kids[2]), kids[1])
	case api.XBin:
		return when(is(0, api.GInt) && is(1, api.GInt), leaf([]int{api.GInt, api.GInt, api.GInt, api.GInt, api.GBool, api.GBool}[m.N-1]))
	case api.XRec:
		return newBare(bare{kind: api.GRec, labels: m.Labels, kids: kids}), api.OK
	case api.XSel:
		if i := slices.Index(kids[0].labels, m.Name); is(0, api.GRec) && i >= 0 {
			return kids[0].kids[i], api.OK
		}
		return nil, api.ErrTarget
	case api.XInj:
		return when(kids[0].same(named[0].kids[m.N]), named[0])
	case api.XCase:
		if len(kids) < 2 {
			return nil, api.ErrTarget
		}
		return when(!slices.ContainsFunc(kids[2:], func(b *bare) bool { return !b.same(kids[1]) }), kids[1])
	}
	return a.togetherToo(m, named, kids)
}

// togetherToo: the same of the kinds in which a type is put into another one, and the last ones.
func (a around) togetherToo(m api.TM, named, kids []*bare) (*bare, api.Errno) {
	opens := map[int]int{api.XUnfold: api.GMu, api.XInst: api.GAll, api.XOpen: api.GEx}
	if kind, ok := opens[m.Kind]; ok && kids[0].kind != kind {
		return nil, api.ErrTarget
	}
	var put *bare
	switch m.Kind {
	case api.XFold:
		put = named[0].kids[0].with(named[0], 0)
	case api.XUnfold:
		put = kids[0].kids[0].with(kids[0], 0)
	case api.XInst:
		put = kids[0].kids[0].with(named[0], 0)
	case api.XPack:
		put = named[1].kids[0].with(named[0], 0)
	case api.XAll:
		return newBare(bare{kind: api.GAll, kids: []*bare{kids[0].bound(m.N, 0)}}), api.OK
	case api.XOpen:
		if kids[1].freeIn(m.N) {
			return nil, api.ErrTarget
		}
		return kids[1], api.OK
	case api.XFail:
		return named[0], api.OK
	default: // XLet, XTick
		return kids[len(kids)-1], api.OK
	}
	switch {
	case put.nodes > kernel.MaxTT:
		return nil, api.ErrBig
	case m.Kind == api.XUnfold || m.Kind == api.XInst:
		return put, api.OK
	case !put.same(kids[0]):
		return nil, api.ErrTarget
	}
	return named[len(named)-1], api.OK
}
