package scheme_test

import (
	"slices"
	"testing"

	"wafer/api"
	"wafer/scheme"
	"wafer/types"
)

// TestF122InstanceAtMaxType: what fits and what is one node too great.
func TestF122InstanceAtMaxType(t *testing.T) {
	const most = api.MaxType
	odd := full(most-1, integer()) // 999 nodes
	// A type with an even number of nodes has to be one that is not right.
	even := node(9, 0, odd) // 1000 nodes
	more := node(9, 0, even)
	id := of(1, gen(0))
	wantInstance(t, id, list(odd), odd, api.OK)
	wantInstance(t, id, list(even), even, api.OK)
	wantInstance(t, id, list(more), api.Type{}, api.ErrBig)
	wantInstance(t, id, list(full(most+1, integer())), api.Type{}, api.ErrBig)

	twice := of(1, fn(gen(0), gen(0)))
	wantInstance(t, twice, list(full(499, unit())), fn(full(499, unit()), full(499, unit())), api.OK)
	wantInstance(t, twice, list(full(501, unit())), api.Type{}, api.ErrBig)

	two := of(2, fn(gen(0), gen(1)))
	wantInstance(t, two, list(full(499, unit()), node(9, 0, full(499, unit()))), fn(full(499, unit()), node(9, 0, full(499, unit()))), api.OK)
	wantInstance(t, two, list(node(9, 0, full(499, unit())), node(9, 0, full(499, unit()))), api.Type{}, api.ErrBig)

	// The scheme's own size counts, not only what is put in.
	s := of(1, full(most-1, gen(0)))
	wantInstance(t, s, list(integer()), odd, api.OK)
	wantInstance(t, s, list(node(9, 0, integer())), full(most-1, node(9, 0, integer())), api.OK)
	wantInstance(t, s, list(fn(integer(), integer())), api.Type{}, api.ErrBig)
	wantInstance(t, of(0, odd), nil, odd, api.OK)
	wantInstance(t, of(0, full(most+1, integer())), nil, api.Type{}, api.ErrBig)
	wantInstance(t, of(1, full(most+1, gen(0))), list(integer()), api.Type{}, api.ErrBig)
}

// TestBeyondMaxType: only Instance has a limit: types of far more nodes are generalised, instantiated and matched.
func TestBeyondMaxType(t *testing.T) {
	for _, nodes := range []int{api.MaxType - 1, api.MaxType + 1, 3*api.MaxType + 1, 20001} {
		g, m := of(1, full(nodes, gen(0))), full(nodes, meta(7))
		wantCanonical(t, of(0, full(nodes, gen(-4))), g)
		wantGeneralise(t, m, nil, g)
		wantGeneralise(t, m, []int{7}, of(0, m))
		wantInstantiate(t, g, 7, m, 8, api.OK)
		matches(t, g, of(0, m), meta(7))
		matches(t, of(1, gen(0)), of(0, m), m)
		matches(t, of(1, fn(gen(0), gen(0))), of(1, fn(g.T, g.T)), g.T)
		fails(t, of(1, fn(gen(0), gen(0))), of(1, fn(g.T, full(nodes, integer()))))
		fails(t, g, of(0, full(nodes-2, integer())))
		matches(t, g, of(0, full(nodes+2, integer())), fn(boolean(), integer()))
	}
}

// TestManyNumbers: so many numbers that no list of them can be gone through for each.
func TestManyNumbers(t *testing.T) {
	const count = 30000
	falling := slices.Clone(upTo(count))
	slices.Reverse(falling)
	gens := of(count, many(api.TGen, upTo(count)))
	wantCanonical(t, of(3, many(api.TGen, falling)), gens)
	wantGeneralise(t, many(api.TMeta, falling), nil, gens)
	wantGeneralise(t, many(api.TMeta, falling), falling, of(0, many(api.TMeta, falling)))
	wantGeneralise(t, many(api.TMeta, upTo(2*count)), upTo(count), of(count, afterKept(count)))

	x, next, e := scheme.Instantiate(gens, 5)
	if e != api.OK || next != count+5 || len(types.Metas(x)) != count || types.Metas(x)[count-1] != count+4 {
		t.Errorf("Instantiate: %d, %v", next, e)
	}
	l, ok := scheme.Match(gens, of(0, many(api.TStamp, falling)))
	if !ok || len(l) != count {
		t.Fatalf("Match: %d types, %v", len(l), ok)
	}
	for i, y := range l {
		same(t, "Match", tell(y), tell(stamp(falling[i])))
	}
	if !scheme.Alike(gens, gens) || scheme.AtLeast(gens, of(count-1, many(api.TGen, upTo(count-1)))) {
		t.Errorf("AtLeast of many numbers")
	}
	wantInstance(t, gens, l, api.Type{}, api.ErrBig)
	wantInstance(t, gens, l[1:], api.Type{}, api.ErrArg)
}

// afterKept: metas that are kept, and TGen behind them, so many of each.
func afterKept(count int) api.Type {
	t := many(api.TGen, upTo(count))
	for _, n := range slices.Backward(upTo(count)) {
		t = pair(meta(n), t)
	}
	return t
}

// chain: a right type that is nested so deep, on the left or on the right.
func chain(depth int, left bool, end api.Type) api.Type {
	for range depth - 1 {
		if left {
			end = pair(end, unit())
		} else {
			end = fn(unit(), end)
		}
	}
	return end
}

// TestDeep: types that are nested as deep as they may be.
func TestDeep(t *testing.T) {
	const depth = 1 << 16
	for _, left := range []bool{true, false} {
		m, g := chain(depth, left, meta(3)), of(1, chain(depth, left, gen(0)))
		ground := of(0, chain(depth, left, stamp(1)))
		wantGeneralise(t, m, nil, g)
		wantCanonical(t, of(0, chain(depth, left, gen(9))), g)
		wantInstantiate(t, g, 3, m, 4, api.OK)
		matches(t, g, ground, stamp(1))
		matches(t, of(1, gen(0)), ground, ground.T)
		fails(t, ground, g)
		fails(t, of(0, chain(depth, left, stamp(2))), ground)
		if !scheme.Alike(g, g) || scheme.Alike(g, ground) {
			t.Errorf("Alike of deep types")
		}
		wantInstance(t, g, list(unit()), api.Type{}, api.ErrBig)
	}
}

// doubled: pairs of pairs, so deep, of one leaf; its lists are shared.
func doubled(depth int, leaf api.Type) api.Type {
	for range depth - 1 {
		leaf = pair(leaf, leaf)
	}
	return leaf
}

// TestOneLeafOften: a part that stands often is held against what was found in time that grows with the type alone.
func TestOneLeafOften(t *testing.T) {
	a, b := of(1, doubled(19, gen(0))), of(0, doubled(20, stamp(4)))
	l, ok := scheme.Match(a, b)
	if !ok || len(l) != 1 || tell(l[0]) != tell(pair(stamp(4), stamp(4))) {
		t.Errorf("Match: %s, %v", brief(tellAll(l)), ok)
	}
	l, ok = scheme.Match(of(1, pair(gen(0), gen(0))), b)
	if !ok || len(l) != 1 || !types.Same(l[0], doubled(19, stamp(4))) {
		t.Errorf("Match: %d types, %v", len(l), ok)
	}
	fails(t, b, a)
	if s := scheme.Generalise(doubled(19, meta(6)), nil); s.Gens != 1 || !types.Same(s.T, a.T) {
		t.Errorf("Generalise: Gens %d", s.Gens)
	}
}
