package kernel_test

import (
	"strconv"
	"testing"

	"wafer/api"
	"wafer/kernel"
)

// TestMaxTT: for each way in which a type comes about, one of just MaxTT nodes, and of one more.
func TestMaxTT(t *testing.T) {
	if kernel.MaxTT != 1048576 {
		t.Fatalf("MaxTT is %d", kernel.MaxTT)
	}
	half := nodes(kernel.MaxTT / 2)
	for _, c := range []struct {
		name string
		of   func(n int) api.TM // a term of which a part's type has n nodes, and none more; y has a type of n - 1, z of n
		less int                // by how many nodes the whole's type has less
	}{
		{"XVar", func(n int) api.TM { return x("z") }, 0},
		{"XFail", func(n int) api.TM { return fail(nodes(n)) }, 0},
		{"XLam from a great one", func(n int) api.TM { return lam("a", nodes(n-2), xunit()) }, 0},
		{"XLam to a great one", func(n int) api.TM { return lam("a", unit(), fail(nodes(n-2))) }, 0},
		{"XLam", func(n int) api.TM { return lam("a", half, fail(nodes(n-1-kernel.MaxTT/2))) }, 0},
		{"XApp", func(n int) api.TM { return app(lam("a", unit(), fail(nodes(n-2))), xunit()) }, 2},
		{"XFix", func(n int) api.TM { return fix("f", "a", half, nodes(n-1-kernel.MaxTT/2), app(x("f"), x("a"))) }, 0},
		{"XLet", func(n int) api.TM { return let("a", x("y"), xrec("a", x("a"))) }, 0},
		{"XPair", func(n int) api.TM { return xpair(fail(half), fail(nodes(n-1-kernel.MaxTT/2))) }, 0},
		{"XFst", func(n int) api.TM { return tm(api.XFst, xpair(fail(nodes(n-2)), xunit())) }, 2},
		{"XSnd", func(n int) api.TM { return tm(api.XSnd, xpair(xunit(), fail(nodes(n-2)))) }, 2},
		{"XIf", func(n int) api.TM { return tm(api.XIf, xbool(1), x("z"), x("z")) }, 0},
		{"XRec", func(n int) api.TM { return xrec("a b c", fail(half), xunit(), fail(nodes(n-2-kernel.MaxTT/2))) }, 0},
		{"XRec of one", func(n int) api.TM { return xrec("a", x("y")) }, 0},
		{"XSel", func(n int) api.TM { return sel("a", xrec("a", x("y"))) }, 1},
		{"XInj", func(n int) api.TM { return inj(0, sum(unit(), nodes(n-2)), xunit()) }, 0},
		{"XCase", func(n int) api.TM { return xcase("a", fail(sum(nodes(n-1))), x("a")) }, 1},
		{"XFold", func(n int) api.TM { return fold(mu(1, nodes(n-1)), x("y")) }, 0},
		{"XUnfold", func(n int) api.TM { return unfold(fail(mu(1, nodes(n-1)))) }, 1},
		{"XAll", func(n int) api.TM { return xall(1, x("y")) }, 0},
		{"XInst", func(n int) api.TM { return inst(half, fail(all(1, pair(v(1), nodes(n-1-kernel.MaxTT/2))))) }, 0},
		{"XInst of nothing", func(n int) api.TM { return inst(unit(), xall(1, x("y"))) }, 1},
		{"XPack", func(n int) api.TM { return pack(unit(), some(1, nodes(n-1)), x("y")) }, 0},
		{"XPack of what is hidden", func(n int) api.TM { return pack(nodes(n-1), some(1, sum(v(1))), inj(0, sum(nodes(n-1)), x("y"))) }, kernel.MaxTT - 3},
		{"XOpen", func(n int) api.TM { return open(1, "a", fail(some(1, nodes(n-1))), x("a")) }, 1},
		{"XTick", func(n int) api.TM { return tick(x("z")) }, 0},
	} {
		for n := kernel.MaxTT; n <= kernel.MaxTT+1; n++ {
			want := big
			if n == kernel.MaxTT {
				want = answer(nodes(n-c.less), api.OK)
			}
			if n-c.less == 3 {
				want = "some t0. [t0]"
			}
			if got := answer(kernel.Check(c.of(n), nil, binds("y", nodes(n-1), "z", nodes(n)))); got != want {
				t.Errorf("%s of %d nodes: %s, want %s", c.name, n, got, want)
			}
		}
	}
	// What comes of unfolding has (1 + u) times as many nodes as the part has, in which the variable stands u times.
	askAll(t, []asked{
		{unfold(fail(mu(1, pair(v(1), nodes(kernel.MaxTT/2-2))))), nil, nil, "1048576 nodes"}, {unfold(fail(mu(1, pair(v(1), nodes(kernel.MaxTT/2-1))))), nil, nil, big},
		{inst(nodes(2), unfold(fail(mu(1, all(2, sum(v(1), v(2), nodes(kernel.MaxTT/2-5))))))), nil, nil, "1048574 nodes"},
	})
}

// TestGrowing: types that grow twofold at each step; they are not counted anew at each place at which they stand, which would take far too long.
func TestGrowing(t *testing.T) {
	doubled := func(times int, end func(last string) api.TM) api.TM {
		m := end("x" + strconv.Itoa(times))
		for i := times; i > 0; i-- {
			before := "x" + strconv.Itoa(i-1)
			m = let("x"+strconv.Itoa(i), xpair(x(before), x(before)), m)
		}
		return let("x0", xunit(), m)
	}
	lets := func(last string) api.TM {
		m := tm(api.XIf, xbool(1), x(last), x(last))
		for range 40000 {
			m = let("y", x(last), tick(m))
		}
		return m
	}
	askAll(t, []asked{
		{doubled(19, x0), nil, nil, "1048575 nodes"}, {doubled(20, x0), nil, nil, big}, {doubled(20, func(string) api.TM { return bad() }), nil, nil, big}, {doubled(50000, x0), nil, nil, big}, {doubled(19, func(string) api.TM { return bad() }), nil, nil, none},
		{doubled(19, lets), nil, nil, "1048575 nodes"},
		{doubled(19, func(last string) api.TM { return lam("a", unit(), x(last)) }), nil, nil, big}, {doubled(19, func(last string) api.TM { return xall(1, x(last)) }), nil, nil, "1048576 nodes"}, {doubled(19, func(last string) api.TM { return xall(1, xall(2, x(last))) }), nil, nil, big},
		// Parts of a great type that were taken out of it are small again.
		{doubled(19, func(last string) api.TM { return xpair(tm(api.XFst, x(last)), tm(api.XSnd, x(last))) }), nil, nil, "1048575 nodes"}, {doubled(19, func(last string) api.TM { return xpair(tm(api.XFst, x(last)), xpair(xunit(), tm(api.XSnd, x(last)))) }), nil, nil, big},
	})
}

func x0(last string) api.TM { return x(last) }

// TestNested: terms that are nested as deep as may be, by each kind.
func TestNested(t *testing.T) {
	two, list := sum(unit(), integer()), mu(1, unit())
	for i, c := range []asked{
		{nest(99999, xint(1), func(i int, m api.TM) api.TM { return lam("x", integer(), m) }), nil, nil, "199999 nodes"},
		{nest(99998, xint(1), func(i int, m api.TM) api.TM { return app(lam("x", integer(), x("x")), m) }), nil, nil, "int"},
		{nest(49999, x("x"), func(i int, m api.TM) api.TM { return app(fix("f", "x", integer(), integer(), m), x("x")) }), nil, binds("x", integer()), "int"},
		{nest(99999, x("x"), func(i int, m api.TM) api.TM { return let("x", x("x"), m) }), nil, binds("x", unit()), "unit"},
		{nest(99999, x("x"), func(i int, m api.TM) api.TM { return let("x"+strconv.Itoa(i), x("x"), m) }), nil, binds("x", unit()), "unit"},
		{nest(99999, xint(1), func(i int, m api.TM) api.TM { return xpair(m, xunit()) }), nil, nil, "199999 nodes"},
		{nest(49999, xint(1), func(i int, m api.TM) api.TM { return tm(api.XFst, xpair(m, xunit())) }), nil, nil, "int"},
		{nest(49999, xint(1), func(i int, m api.TM) api.TM { return tm(api.XSnd, xpair(xunit(), m)) }), nil, nil, "int"},
		{nest(99999, xint(1), func(i int, m api.TM) api.TM { return tm(api.XIf, xbool(1), xint(2), m) }), nil, nil, "int"},
		{nest(99999, xint(1), func(i int, m api.TM) api.TM { return bin(api.OSub, xint(2), m) }), nil, nil, "int"},
		{nest(99999, xint(1), func(i int, m api.TM) api.TM { return xrec("a", m) }), nil, nil, "100000 nodes"},
		{nest(49999, xint(1), func(i int, m api.TM) api.TM { return sel("a", xrec("a", m)) }), nil, nil, "int"},
		{nest(49999, xint(1), func(i int, m api.TM) api.TM { return xcase("a b", inj(1, two, m), xint(1), x("b")) }), nil, nil, "int"},
		{nest(99997, xint(1), func(i int, m api.TM) api.TM { return xcase("a b", fail(two), xint(1), m) }), nil, nil, "int"},
		{nest(49998, fail(list), func(i int, m api.TM) api.TM { return fold(list, unfold(m)) }), nil, nil, "mu t0. unit"},
		{nest(99999, xint(1), func(i int, m api.TM) api.TM { return xall(i, m) }), nil, nil, "100000 nodes"},
		{nest(49998, xint(1), func(i int, m api.TM) api.TM { return inst(unit(), xall(i, m)) }), nil, nil, "int"},
		{nest(99997, xint(1), func(i int, m api.TM) api.TM { return open(i, "x", fail(some(1, v(1))), m) }), nil, nil, "int"},
		{nest(49998, xint(1), func(i int, m api.TM) api.TM { return open(1, "x", pack(unit(), some(1, integer()), m), x("x")) }), nil, nil, "int"},
	} {
		if got := answer(kernel.Check(c.m, c.vars, c.l)); got != c.want {
			t.Errorf("%d: %s, want %s", i, got, c.want)
		}
	}
}

// nest: a term with so many laid around it.
func nest(times int, m api.TM, around func(i int, m api.TM) api.TM) api.TM {
	for i := range times {
		m = around(i, m)
	}
	return m
}

// TestNestedTypes: types that are put into one another are nested far deeper than those that are named, at most as deep as they have nodes; and that may happen far inside a term.
func TestNestedTypes(t *testing.T) {
	for _, c := range []struct {
		kind, around, levels int
		end                  api.TT
		want                 string
	}{
		{api.GSum, 10, 99900, unit(), "1048575 nodes"}, {api.GSum, 49900, 49900, sum(unit()), "1048576 nodes"}, {api.GMu, 10, 99900, sum(sum(unit())), big},
	} {
		chain := func(levels int, end api.TT) api.TT {
			for range levels {
				end = api.TT{Kind: c.kind, Kids: []api.TT{end}}
			}
			return end
		}
		m, whole := fail(chain(c.levels, v(1))), c.levels
		for i := 1; whole+c.levels < kernel.MaxTT; i++ {
			m, whole = inst(chain(c.levels, v(i+1)), xall(i, m)), whole+c.levels
		}
		last := (whole / c.levels)
		m = inst(c.end, xall(last+1, inst(chain(kernel.MaxTT-whole-2, v(last+1)), xall(last, m))))
		m = let("y", m, tm(api.XIf, xbool(1), x("y"), open(1, "z", fail(some(2, v(2))), x("y"))))
		if got := answer(kernel.Check(ticks(c.around, m), nil, nil)); got != c.want {
			t.Errorf("%v: %s", c, got)
		}
	}
}
