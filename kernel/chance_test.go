package kernel_test

import (
	"math/rand"
	"slices"
	"strconv"
	"testing"

	"wafer/api"
	"wafer/kernel"
	"wafer/target"
)

// chosen: one of a list, by chance.
func chosen[E any](r *rand.Rand, l ...E) E { return l[r.Intn(len(l))] }

// someType: a right type by chance, whose free numbers are among vars, nested at most so deep. Few numbers are bound, so that they meet those in scope.
func someType(r *rand.Rand, vars []int, depth int) api.TT {
	if depth <= 1 || r.Intn(4) == 0 {
		if len(vars) > 0 && r.Intn(2) == 0 {
			return v(chosen(r, vars...))
		}
		return chosen(r, integer(), boolean(), unit(), rec(""), sum(), integer())
	}
	kid := func() api.TT { return someType(r, vars, depth-1) }
	switch r.Intn(8) {
	case 0:
		return fn(kid(), kid())
	case 1:
		return pair(kid(), kid())
	case 2:
		return rec(chosen(r, "a b", "A a", "b c"), kid(), kid())
	case 3:
		return rec(chosen(r, "a", "b"), kid())
	case 4:
		return sum([]api.TT{kid(), kid(), kid()}[:r.Intn(4)]...)
	}
	n := r.Intn(6)
	return tt(chosen(r, api.GMu, api.GAll, api.GEx), n, someType(r, append(slices.Clip(vars), n), depth-1))
}

// renumbered: a type with the numbers that it binds given others by chance, so that none is caught.
func renumbered(r *rand.Rand, t api.TT) api.TT {
	kids := make([]api.TT, len(t.Kids))
	for i, kid := range t.Kids {
		kids[i] = renumbered(r, kid)
	}
	t.Kids = kids
	if n := r.Intn(8); bindsOne(t.Kind) && !slices.Contains(target.FreeTypes(t.Kids[0]), n) {
		t.Kids[0], t.N = target.Put(t.Kids[0], t.N, v(n)), n
	}
	return t
}

// maker: makes terms that have a type, in surroundings that it keeps.
type maker struct {
	r    *rand.Rand
	vars []int
	l    []kernel.Bind
}

func (g *maker) name() string { return chosen(g.r, "f", "g", "x", "y", "") }

// number: one that is not in scope.
func (g *maker) number() int {
	for {
		if n := g.r.Intn(9); !slices.Contains(g.vars, n) {
			return n
		}
	}
}

func (g *maker) someType(depth int) api.TT { return someType(g.r, g.vars, depth) }

// again: a type that is one with t.
func (g *maker) again(t api.TT) api.TT { return renumbered(g.r, t) }

// with: a term of a type, with more names in scope.
func (g *maker) with(t api.TT, depth int, l ...kernel.Bind) api.TM {
	inner := &maker{g.r, g.vars, append(slices.Clip(g.l), l...)}
	return inner.term(t, depth)
}

// under: the same with one number more in scope.
func (g *maker) under(n int, t api.TT, depth int, l ...kernel.Bind) api.TM {
	inner := &maker{g.r, append(slices.Clip(g.vars), n), append(slices.Clip(g.l), l...)}
	return inner.term(t, depth)
}

// variable: a name of that type that is in scope.
func (g *maker) variable(t api.TT) (api.TM, bool) {
	var fit []string
	hidden := map[string]int{}
	for _, b := range slices.Backward(g.l) {
		if hidden[b.Name]++; hidden[b.Name] == 1 && target.SameType(b.T, t) {
			fit = append(fit, b.Name)
		}
	}
	if len(fit) == 0 {
		return api.TM{}, false
	}
	return x(chosen(g.r, fit...)), true
}

// term: a term of that type, nested at most some levels deep.
func (g *maker) term(t api.TT, depth int) api.TM {
	if depth <= 0 || g.r.Intn(8) == 0 {
		if m, ok := g.variable(t); ok {
			return m
		}
		if depth <= 0 {
			return g.least(t)
		}
	}
	if g.r.Intn(2) == 0 {
		return g.built(t, depth)
	}
	return g.taken(t, depth)
}

func (g *maker) least(t api.TT) api.TM {
	switch t.Kind {
	case api.GInt:
		return xint(int64(g.r.Intn(5)))
	case api.GBool:
		return xbool(int64(g.r.Intn(2)))
	case api.GUnit:
		return xunit()
	}
	return fail(g.again(t))
}

// built: a term of a kind that belongs to the type's own kind.
func (g *maker) built(t api.TT, depth int) api.TM {
	d := depth - 1
	switch t.Kind {
	case api.GInt:
		return bin(1+g.r.Intn(4), g.term(integer(), d), g.term(integer(), d))
	case api.GBool:
		return bin(5+g.r.Intn(2), g.term(integer(), d), g.term(integer(), d))
	case api.GFn:
		a, b, name, label := g.again(t.Kids[0]), g.again(t.Kids[1]), g.name(), g.name()
		if g.r.Intn(2) == 0 {
			return lam(name, a, g.with(b, d, kernel.Bind{Name: name, T: a}))
		}
		return fix(name, label, a, b, g.with(b, d, kernel.Bind{Name: name, T: fn(a, b)}, kernel.Bind{Name: label, T: a}))
	case api.GPair:
		return xpair(g.term(t.Kids[0], d), g.term(t.Kids[1], d))
	case api.GRec:
		m := api.TM{Kind: api.XRec, Labels: t.Labels}
		for _, kid := range t.Kids {
			m.Kids = append(m.Kids, g.term(kid, d))
		}
		return m
	case api.GSum:
		if len(t.Kids) > 0 {
			i := g.r.Intn(len(t.Kids))
			return inj(i, g.again(t), g.term(t.Kids[i], d))
		}
	case api.GMu:
		return fold(g.again(t), g.term(target.Put(t.Kids[0], t.N, t), d))
	case api.GAll:
		n := g.number()
		return xall(n, g.under(n, target.Put(t.Kids[0], t.N, v(n)), d))
	case api.GEx:
		hidden := g.someType(2)
		return pack(g.again(hidden), g.again(t), g.term(target.Put(t.Kids[0], t.N, hidden), d))
	}
	return g.least(t)
}

// taken: a term that has any type, as its parts have it.
func (g *maker) taken(t api.TT, depth int) api.TM {
	d, a, name, n := depth-1, g.someType(3), g.name(), g.number()
	switch g.r.Intn(12) {
	case 0:
		return app(g.term(fn(a, t), d), g.term(a, d))
	case 1:
		return let(name, g.term(a, d), g.with(t, d, kernel.Bind{Name: name, T: a}))
	case 2:
		return tm(api.XFst, g.term(pair(t, a), d))
	case 3:
		return tm(api.XSnd, g.term(pair(a, t), d))
	case 4:
		return tm(api.XIf, g.term(boolean(), d), g.term(t, d), g.term(t, d))
	case 5:
		return sel("b", g.term(chosen(g.r, rec("a b", a, t), rec("b", t), rec("b c", t, a)), d))
	case 6:
		return g.choice(t, d)
	case 7:
		return unfold(g.term(mu(n, t), d))
	case 8:
		whole := mu(3, someType(g.r, append(slices.Clip(g.vars), 3), 3))
		return let(name, unfold(g.term(whole, d)), g.with(t, d, kernel.Bind{Name: name, T: target.Put(whole.Kids[0], 3, whole)}))
	case 9:
		// t is what comes of putting a in for the number, wherever that may stand in it.
		a = chosen(g.r, integer(), unit(), a)
		return inst(g.again(a), g.term(g.again(all(n, g.general(t, a, n, nil))), d))
	case 10:
		e := some(n, someType(g.r, append(slices.Clip(g.vars), n), 3))
		fresh := g.number()
		return open(fresh, name, g.term(e, d), g.under(fresh, t, d, kernel.Bind{Name: name, T: target.Put(e.Kids[0], n, v(fresh))}))
	}
	return tick(g.term(t, d))
}

func (g *maker) choice(t api.TT, depth int) api.TM {
	s := sum([]api.TT{g.someType(2), g.someType(2), g.someType(2)}[:1+g.r.Intn(3)]...)
	m := api.TM{Kind: api.XCase, Kids: []api.TM{g.term(s, depth)}}
	for _, kid := range s.Kids {
		name := g.name()
		m.Labels = append(m.Labels, name)
		m.Kids = append(m.Kids, g.with(t, depth, kernel.Bind{Name: name, T: kid}))
	}
	return m
}

// general: a type of which t comes, if a is put in for n; n is not free in t.
func (g *maker) general(t, a api.TT, n int, outer []int) api.TT {
	caught := slices.ContainsFunc(target.FreeTypes(a), func(f int) bool { return slices.Contains(outer, f) })
	if target.SameType(t, a) && !caught && !slices.Contains(outer, n) && g.r.Intn(3) > 0 {
		return v(n)
	}
	if bindsOne(t.Kind) {
		outer = append(slices.Clip(outer), t.N)
	}
	kids := make([]api.TT, len(t.Kids))
	for i, kid := range t.Kids {
		kids[i] = g.general(kid, a, n, outer)
	}
	t.Kids = kids
	return t
}

// made: surroundings by chance, a type, and a term that has it there.
func made(r *rand.Rand, depth int) (m api.TM, t api.TT, vars []int, l []kernel.Bind) {
	for range r.Intn(4) {
		vars = append(vars, r.Intn(6))
	}
	for range r.Intn(5) {
		l = append(l, kernel.Bind{Name: chosen(r, "f", "g", "x", "y", ""), T: someType(r, vars, 3)})
	}
	g := &maker{r, vars, l}
	t = g.someType(4)
	return g.term(t, depth), t, vars, l
}

// TestByChance: terms that are made so that they have a type have it.
func TestByChance(t *testing.T) {
	r := rand.New(rand.NewSource(10))
	seen := map[int]int{}
	for range 8000 {
		m, want, vars, l := made(r, 7)
		count(m, seen)
		got, e := kernel.Check(m, vars, l)
		if e != api.OK || !target.SameType(got, want) {
			t.Fatalf("Check(%s, %v, %v): %s, want %s", target.Show(m), vars, l, answer(got, e), target.Text(want))
		}
		if !kernel.InScope(got, vars) {
			t.Fatalf("Check(%s): %s is not in scope", target.Show(m), target.Text(got))
		}
	}
	for kind := api.XInt; kind <= api.XTick; kind++ {
		if seen[kind] < 100 {
			t.Errorf("only %d terms of kind %d were made", seen[kind], kind)
		}
	}
}

func count(m api.TM, seen map[int]int) {
	seen[m.Kind]++
	for _, kid := range m.Kids {
		count(kid, seen)
	}
}

// spoiled: a term with one node, by chance, that is another one.
func spoiled(r *rand.Rand, m api.TM) api.TM {
	if len(m.Kids) > 0 && r.Intn(5) > 0 {
		i := r.Intn(len(m.Kids))
		m.Kids = slices.Clone(m.Kids)
		m.Kids[i] = spoiled(r, m.Kids[i])
		return m
	}
	switch r.Intn(9) {
	case 0:
		m.N = r.Intn(9)
	case 1:
		m.Name = chosen(r, "f", "g", "x", "y", "", "a", "b")
	case 2:
		m.Kind = 1 + r.Intn(25)
	case 3:
		m.Kids = slices.Clone(m.Kids)
		slices.Reverse(m.Kids)
	case 4:
		m.Types = slices.Clone(m.Types)
		slices.Reverse(m.Types)
	case 5:
		m.Labels = slices.Clone(m.Labels)
		for i := range m.Labels {
			m.Labels[i] = chosen(r, "f", "g", "x", "y", "a", "b")
		}
	case 6:
		return chosen(r, xint(1), xunit(), x("f"), x("z"), fail(someType(r, []int{0, 1, 2, 3, 4, 5}, 3)))
	default:
		m.Types = slices.Clone(m.Types)
		for i := range m.Types {
			m.Types[i] = spoiledType(r, m.Types[i])
		}
	}
	return m
}

func spoiledType(r *rand.Rand, t api.TT) api.TT {
	if len(t.Kids) == 0 || r.Intn(4) == 0 {
		return someType(r, []int{0, 1, 2, 3, 4, 5}, 2)
	}
	i := r.Intn(len(t.Kids))
	t.Kids = slices.Clone(t.Kids)
	t.Kids[i] = spoiledType(r, t.Kids[i])
	return t
}

// agree: does Check answer what it must?
func agree(t *testing.T, m api.TM, vars []int, l []kernel.Bind) api.Errno {
	t.Helper()
	got, e := kernel.Check(m, vars, l)
	want, wanted := plainCheck(m, vars, l)
	if e != wanted || e == api.OK && !bareOf(got, nil).same(want) {
		t.Fatalf("Check(%s, %v, %v): %s, want error %v", show(m), vars, l, answer(got, e), wanted)
	}
	return e
}

// TestSpoiled: terms that had a type, till something in them was made another, against the chapter's words.
func TestSpoiled(t *testing.T) {
	r := rand.New(rand.NewSource(1002))
	seen := map[api.Errno]int{}
	for range 40000 {
		m, _, vars, l := made(r, 6)
		for range 1 + r.Intn(2) {
			m = spoiled(r, m)
		}
		if r.Intn(4) == 0 && len(l) > 0 {
			l[r.Intn(len(l))].T = someType(r, []int{0, 1, 2, 3}, 2)
		}
		seen[agree(t, m, vars, l)]++
	}
	if seen[api.OK] < 3000 || seen[api.ErrTarget] < 3000 || seen[api.ErrArg] < 1000 {
		t.Errorf("how often which answer came: %v", seen)
	}
}

// TestGreatByChance: terms in whose surroundings there are types that nearly fill MaxTT, or more, against the chapter's words.
func TestGreatByChance(t *testing.T) {
	r := rand.New(rand.NewSource(1048576))
	seen := map[api.Errno]int{}
	sizes := []int{kernel.MaxTT/2 - 3, kernel.MaxTT/2 - 2, kernel.MaxTT/2 - 1, kernel.MaxTT / 2, kernel.MaxTT - 2, kernel.MaxTT - 1, kernel.MaxTT, kernel.MaxTT + 1}
	l := binds("f", fn(unit(), unit()), "m", mu(1, fn(v(1), unit())))
	for i, n := range sizes {
		l = append(l, kernel.Bind{Name: strconv.Itoa(i), T: nodes(n)})
	}
	for range 300 {
		seen[agree(t, great(r, len(sizes), 3), []int{7}, l)]++
	}
	if seen[api.OK] < 15 || seen[api.ErrTarget] < 15 || seen[api.ErrBig] < 15 {
		t.Errorf("how often which answer came: %v", seen)
	}
}

// great: a term by chance, with names of great types.
func great(r *rand.Rand, names, depth int) api.TM {
	kid := func() api.TM { return great(r, names, depth-1) }
	if depth <= 1 || r.Intn(6) == 0 {
		return chosen(r, x(strconv.Itoa(r.Intn(names))), x(strconv.Itoa(r.Intn(names))), x("f"), x("m"), xunit(), x("y"), xbool(1))
	}
	a := nodes(kernel.MaxTT/2 - 2 + r.Intn(3))
	switch r.Intn(16) {
	case 0:
		return app(kid(), kid())
	case 1:
		return lam("y", a, kid())
	case 2:
		return let("y", kid(), kid())
	case 3:
		return tm(api.XIf, xbool(1), kid(), kid())
	case 4:
		return tm(chosen(r, api.XFst, api.XSnd), kid())
	case 5:
		return xrec("a", kid())
	case 6:
		return inj(0, chosen(r, sum(unit()), sum(unit(), a), sum(unit(), a, a)), kid())
	case 7:
		return unfold(fail(mu(1, chosen(r, pair(v(1), a), fn(v(1), v(1)), a))))
	case 8:
		return fold(mu(1, chosen(r, pair(v(1), a), a, unit())), kid())
	case 9:
		return xall(chosen(r, 1, 2, 7), kid())
	case 10:
		return inst(a, fail(all(1, chosen(r, pair(v(1), a), pair(v(1), v(1)), v(1), unit()))))
	case 11:
		return pack(a, some(1, chosen(r, v(1), unit(), pair(v(1), v(1)), pair(v(1), a))), kid())
	case 12:
		return open(chosen(r, 1, 7), "y", fail(some(1, chosen(r, v(1), a, pair(v(1), a)))), kid())
	case 13:
		return fix("f", "y", a, chosen(r, a, unit()), kid())
	}
	return xpair(kid(), kid())
}
