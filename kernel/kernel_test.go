package kernel_test

import (
	"math"
	"testing"

	"wafer/api"
	"wafer/kernel"
	"wafer/target"
)

// identity: of all types.
func identity() api.TM { return xall(1, lam("x", v(1), x("x"))) }

func TestExamples(t *testing.T) {
	packed := pack(integer(), some(2, v(2)), xint(5))
	list := mu(1, sum(unit(), v(1)))
	out, e := kernel.Unfold(list)
	if got := answer(out, e); got != "[unit | (mu t0. [unit | t0])]" {
		t.Errorf("Unfold: %s", got)
	}
	askAll(t, []asked{
		{identity(), nil, nil, "all t0. t0 -> t0"},
		{app(inst(integer(), identity()), xint(5)), nil, nil, "int"},
		{open(1, "x", packed, x("x")), nil, nil, none},
		{open(1, "x", packed, xint(0)), nil, nil, "int"},
		{fold(list, inj(0, out, xunit())), nil, nil, "mu t0. [unit | t0]"},
		{lam("x", v(1), x("x")), nil, nil, none},
		{x("z"), nil, nil, none},
		{app(xunit(), xunit()), nil, nil, none},
	})
}

func TestInScope(t *testing.T) {
	for i, c := range []struct {
		t    api.TT
		vars []int
		want bool
	}{
		{integer(), nil, true}, {integer(), []int{1}, true}, {v(1), nil, false}, {v(1), []int{2}, false}, {v(1), []int{2, 1}, true}, {v(1), []int{1, 1}, true},
		{v(0), nil, false}, {v(0), []int{0}, true}, {v(-3), []int{-3}, true}, {v(math.MaxInt), []int{math.MinInt}, false}, {v(math.MinInt), []int{math.MaxInt, math.MinInt}, true},
		{fn(v(1), v(2)), []int{1}, false}, {fn(v(1), v(2)), []int{2}, false}, {fn(v(1), v(2)), []int{2, 1}, true},
		{rec("a b", v(1), sum(v(2), pair(unit(), v(3)))), []int{1, 2}, false}, {rec("a b", v(1), sum(v(2), pair(unit(), v(3)))), []int{1, 2, 3}, true},
		// What is bound need not be in scope, and is not in scope outside.
		{all(1, v(1)), nil, true}, {mu(1, v(1)), nil, true}, {some(1, v(1)), nil, true}, {all(1, v(2)), []int{1}, false}, {all(1, v(2)), []int{2}, true},
		{pair(all(1, v(1)), v(1)), nil, false}, {pair(some(1, v(1)), v(1)), []int{1}, true}, {mu(1, all(2, fn(v(1), v(2)))), nil, true},
		// Types that are not right.
		{api.TT{}, nil, false}, {tt(api.GInt, 1), nil, false}, {tt(api.GFn, 0, unit()), nil, false}, {pair(unit(), tt(12, 0)), []int{1}, false}, {rec("b a", unit(), unit()), nil, false},
		{tt(api.GVar, 1, unit()), []int{1}, false}, {tt(api.GMu, 1), []int{1}, false}, {rec("a", unit(), unit()), nil, false},
	} {
		if got := kernel.InScope(c.t, c.vars); got != c.want {
			t.Errorf("%d: InScope(%s, %v): %v", i, target.Text(c.t), c.vars, got)
		}
	}
	nested := unit()
	for range 99999 {
		nested = sum(nested)
	}
	if !kernel.InScope(nested, nil) || kernel.InScope(sum(nested), nil) {
		t.Error("InScope: of types that are nested 100000 and 100001 deep")
	}
}

func TestUnfold(t *testing.T) {
	for i, c := range []struct {
		t    api.TT
		want string
	}{
		{mu(1, v(1)), "mu t0. t0"},
		{mu(1, integer()), "int"},
		{mu(1, v(2)), "#2"},
		{mu(1, fn(v(1), v(2))), "(mu t0. t0 -> #2) -> #2"},
		{mu(-1, pair(v(-1), v(-1))), "((mu t0. (t0 * t0)) * (mu t0. (t0 * t0)))"},
		// Its own number is bound once more inside.
		{mu(1, pair(v(1), mu(1, v(1)))), "((mu t0. (t0 * (mu t1. t1))) * (mu t0. t0))"},
		// What is put in has a free number that a binder inside would catch.
		{mu(1, all(2, sum(v(1), v(2), v(3)))), "all t0. [(mu t1. all t2. [t1 | t2 | #3]) | t0 | #3]"},
		{mu(1, pair(v(2), all(2, pair(v(1), v(2))))), "(#2 * (all t0. ((mu t1. (#2 * (all t2. (t1 * t2)))) * t0)))"},
		{mu(1, some(2, mu(3, sum(v(1), v(2), v(3), v(4))))), "some t0. mu t1. [(mu t2. some t3. mu t4. [t2 | t3 | t4 | #4]) | t0 | t1 | #4]"},
		// No GMu, or not a right one.
		{integer(), none}, {v(1), none}, {all(1, v(1)), none}, {some(1, v(1)), none}, {fn(mu(1, v(1)), unit()), none}, {sum(mu(1, v(1))), none}, {api.TT{}, none}, {tt(12, 1, v(1)), none},
		{tt(api.GMu, 1), none}, {tt(api.GMu, 1, v(1), v(1)), none}, {mu(1, tt(api.GInt, 3)), none}, {mu(1, tt(api.GFn, 0, v(1))), none},
		{api.TT{Kind: api.GMu, N: 1, Labels: []string{"a"}, Kids: []api.TT{v(1)}}, none}, {mu(1, rec("b a", unit(), v(1))), none},
	} {
		if got := answer(kernel.Unfold(c.t)); got != c.want {
			t.Errorf("%d: Unfold(%s): %s, want %s", i, target.Text(c.t), got, c.want)
		}
	}
}

// TestUnfoldBig: of 1 + u times as many nodes as T has, with the variable u times in it.
func TestUnfoldBig(t *testing.T) {
	times := func(u, nodesOfT int) api.TT {
		kids := []api.TT{nodes(nodesOfT - 1 - u)}
		for range u {
			kids = append(kids, v(1))
		}
		return mu(1, sum(kids...))
	}
	for i, c := range []struct {
		t    api.TT
		want string
	}{
		{times(1, kernel.MaxTT/2), "1048576 nodes"},
		{times(1, kernel.MaxTT/2+1), big},
		{times(15, kernel.MaxTT/16), "1048576 nodes"},
		{times(16, 61681), big}, // 17 times that is one more than MaxTT
		{times(1000, 2000), big},
		{times(60000, 61000), big}, // more nodes than 31 bits count
		{mu(1, nodes(kernel.MaxTT)), "1048576 nodes"},
		{mu(1, nodes(kernel.MaxTT+1)), big},
		{sum(nodes(kernel.MaxTT + 1)), none},
		{mu(1, pair(nodes(kernel.MaxTT+1), tt(api.GInt, 1))), none},
	} {
		if got := answer(kernel.Unfold(c.t)); got != c.want {
			t.Errorf("%d: Unfold: %s, want %s", i, got, c.want)
		}
	}
	nested := v(1)
	for range 99998 {
		nested = sum(nested)
	}
	if got := answer(kernel.Unfold(mu(1, nested))); got != "199998 nodes" {
		t.Errorf("Unfold of a type that is nested 100000 deep: %s", got)
	}
	if got := answer(kernel.Unfold(mu(1, sum(nested)))); got != none {
		t.Errorf("Unfold of a type that is nested 100001 deep, and not right: %s", got)
	}
}

func TestHas(t *testing.T) {
	nodesOfMany := let("a", fail(nodes(kernel.MaxTT)), xpair(x("a"), x("a")))
	for i, c := range []struct {
		m    api.TM
		t    api.TT
		want api.Errno
	}{
		{xint(5), integer(), api.OK}, {xint(5), boolean(), api.ErrTarget}, {xint(5), tt(api.GInt, 0), api.OK},
		{identity(), all(1, fn(v(1), v(1))), api.OK}, {identity(), all(7, fn(v(7), v(7))), api.OK}, {identity(), all(7, fn(v(7), v(1))), api.ErrTarget},
		{identity(), all(1, fn(v(1), v(2))), api.ErrTarget}, {identity(), some(1, fn(v(1), v(1))), api.ErrTarget}, {identity(), fn(v(1), v(1)), api.ErrTarget},
		{xall(1, identity1(2)), all(2, all(1, fn(v(1), v(1)))), api.OK}, {xall(1, identity1(2)), all(2, all(1, fn(v(2), v(1)))), api.ErrTarget},
		{pack(integer(), some(2, pair(v(2), integer())), xpair(xint(1), xint(2))), some(5, pair(v(5), integer())), api.OK},
		{pack(integer(), some(2, pair(v(2), integer())), xpair(xint(1), xint(2))), some(5, pair(v(5), v(5))), api.ErrTarget},
		{fail(mu(1, sum(v(1)))), mu(2, sum(v(2))), api.OK}, {fail(mu(1, sum(v(1)))), sum(mu(2, sum(v(2)))), api.ErrTarget},
		// The term's own error.
		{x("z"), integer(), api.ErrTarget}, {fail(v(1)), v(1), api.ErrTarget}, {nodesOfMany, integer(), api.ErrBig}, {api.TM{}, integer(), api.ErrArg}, {api.TM{}, api.TT{}, api.ErrArg}, {xbool(2), boolean(), api.ErrArg},
		{ticks(100001, xint(1)), integer(), api.ErrDeep},
		// Types that are not right are one with none.
		{xint(5), api.TT{}, api.ErrTarget}, {xint(5), tt(api.GInt, 1), api.ErrTarget}, {xint(5), tt(api.GInt, 0, integer()), api.ErrTarget}, {fail(nodes(kernel.MaxTT)), nodes(kernel.MaxTT), api.OK}, {fail(nodes(kernel.MaxTT)), nodes(kernel.MaxTT + 1), api.ErrTarget},
	} {
		if got := kernel.Has(c.m, c.t); got != c.want {
			t.Errorf("%d: Has(%s, ..): %v, want %v", i, show(c.m), got, c.want)
		}
	}
}

// identity1: identity, with the number that it binds.
func identity1(n int) api.TM { return xall(n, lam("x", v(n), x("x"))) }

// ticks: a term that is nested so deep, by XTick.
func ticks(depth int, end api.TM) api.TM {
	for range depth - 1 {
		end = tick(end)
	}
	return end
}
