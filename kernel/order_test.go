package kernel_test

import (
	"testing"

	"wafer/api"
	"wafer/kernel"
)

// Terms that have no type: bad() gives ErrTarget, large() ErrBig; full() has a type that just fits.
func bad() api.TM { return x("nobody") }

func large() api.TM { return x("large") }

func full() api.TM { return x("full") }

func surroundings() []kernel.Bind {
	return binds("large", nodes(kernel.MaxTT+1), "full", nodes(kernel.MaxTT), "two", sum(unit(), unit()), "three", sum(unit(), unit(), unit()), "list", mu(1, sum(unit(), v(1))), "packed", some(1, v(1)), "general", all(1, v(1)))
}

// askOrder: asks for each with surroundings(), and the number 9 in scope.
func askOrder(t *testing.T, l []asked) {
	t.Helper()
	for i := range l {
		l[i].vars, l[i].l = []int{9}, surroundings()
	}
	askAll(t, l)
}

func TestRightFirst(t *testing.T) {
	wrong := api.TM{}
	for _, m := range []api.TM{xpair(bad(), wrong), xpair(large(), wrong), lam("x", v(1), wrong), xall(9, wrong), app(app(xunit(), xunit()), wrong), xcase("a b", large(), bad(), xbool(2)), fail(tt(api.GVar, 1, unit())), xpair(bad(), fail(sum(tt(api.GInt, 1)))), inj(-1, integer(), bad()), xrec("b a", large(), bad())} {
		askOrder(t, []asked{{m: m, want: notRight}})
	}
	for _, m := range []api.TM{xpair(bad(), ticks(100000, xunit())), xpair(wrong, ticks(100000, xunit())), xpair(ticks(100000, xunit()), large()), ticks(100001, bad()), ticks(100001, wrong)} {
		askOrder(t, []asked{{m: m, want: deep}})
	}
	askOrder(t, []asked{{m: ticks(100000, xunit()), want: "unit"}, {m: ticks(100000, bad()), want: none}, {m: ticks(100000, large()), want: big}, {m: ticks(100000, wrong), want: notRight}})
}

// TestLeftFirst: of two parts the left one counts, and a part ahead of what it is a part of.
func TestLeftFirst(t *testing.T) {
	for _, c := range []struct {
		name string
		of   func(a, b api.TM) api.TM
	}{
		{"XApp", app},
		{"XApp far inside", func(a, b api.TM) api.TM { return app(tick(tick(a)), b) }},
		{"XLet", func(a, b api.TM) api.TM { return let("y", a, b) }},
		{"XPair", xpair},
		{"XIf 1 2", func(a, b api.TM) api.TM { return tm(api.XIf, a, b, xunit()) }},
		{"XIf 1 3", func(a, b api.TM) api.TM { return tm(api.XIf, a, xunit(), b) }},
		{"XIf 2 3", func(a, b api.TM) api.TM { return tm(api.XIf, xbool(1), a, b) }},
		{"XIf 2 3 without a bool", func(a, b api.TM) api.TM { return tm(api.XIf, xunit(), a, b) }},
		{"XBin", func(a, b api.TM) api.TM { return bin(api.OLt, a, b) }},
		{"XRec", func(a, b api.TM) api.TM { return xrec("a b c", xunit(), a, b) }},
		{"XCase 1 2", func(a, b api.TM) api.TM { return xcase("a b", a, b, xunit()) }},
		{"XCase 1 3", func(a, b api.TM) api.TM { return xcase("a b", a, xunit(), b) }},
		{"XCase 2 3", func(a, b api.TM) api.TM { return xcase("a b", x("two"), a, b) }},
		{"XCase 2 4", func(a, b api.TM) api.TM { return xcase("a b c", x("three"), a, xunit(), b) }},
		{"XCase 3 4", func(a, b api.TM) api.TM { return xcase("a b c", x("three"), xint(1), a, b) }},
		{"XOpen", func(a, b api.TM) api.TM { return open(3, "y", a, b) }},
	} {
		askOrder(t, []asked{{m: c.of(bad(), large()), want: none}, {m: c.of(large(), bad()), want: big}, {m: c.of(large(), large()), want: big}})
		if t.Failed() {
			t.Fatalf("in %s", c.name)
		}
	}
}

// TestKidsFirst: what the types of the Kids must be is asked behind the last one of them.
func TestKidsFirst(t *testing.T) {
	askOrder(t, []asked{
		{m: app(xunit(), large()), want: big}, {m: app(lam("x", unit(), x("x")), large()), want: big}, {m: app(large(), xunit()), want: big},
		{m: tm(api.XIf, xunit(), large(), xunit()), want: big}, {m: tm(api.XIf, xunit(), xunit(), large()), want: big}, {m: tm(api.XIf, xbool(1), xunit(), large()), want: big}, {m: tm(api.XIf, xunit(), xunit(), xint(1)), want: none},
		{m: bin(api.OAdd, xunit(), large()), want: big}, {m: bin(api.OAdd, large(), xunit()), want: big},
		{m: tm(api.XFst, large()), want: big}, {m: tm(api.XSnd, large()), want: big}, {m: sel("a", large()), want: big}, {m: unfold(large()), want: big}, {m: inst(unit(), large()), want: big}, {m: tick(large()), want: big}, {m: lam("x", unit(), large()), want: big}, {m: xall(3, large()), want: big},
		{m: xcase("a b c", x("three"), xunit(), xint(1), large()), want: big}, {m: xcase("a b c", x("three"), xunit(), xint(1), xunit()), want: none}, {m: xcase("a b", large(), xunit(), xunit()), want: big}, {m: xcase("", large()), want: big},
		// The branches have no surroundings without a fitting sum.
		{m: xcase("a b", xunit(), large(), large()), want: none}, {m: xcase("a b", x("three"), large(), large()), want: none}, {m: xcase("a b c", x("two"), large(), large(), large()), want: none},
		{m: xcase("a b", x("two"), large(), xunit()), want: big},
		// Nor has the second part of XOpen without a GEx, or with a number that is not new.
		{m: open(3, "y", xunit(), large()), want: none}, {m: open(9, "y", x("packed"), large()), want: none}, {m: open(9, "y", large(), xunit()), want: big}, {m: open(3, "y", x("packed"), large()), want: big}, {m: open(3, "y", x("packed"), x("y")), want: none},
	})
}

// TestNamedFirst: the types that a term names, and that XAll's number is new, are looked at ahead of its Kids.
func TestNamedFirst(t *testing.T) {
	two, list, packed := sum(unit(), unit()), mu(1, sum(unit(), v(1))), some(1, v(1))
	askOrder(t, []asked{
		{m: lam("x", v(8), large()), want: none}, {m: lam("x", v(9), large()), want: big}, {m: fix("f", "x", v(8), unit(), large()), want: none}, {m: fix("f", "x", unit(), v(8), large()), want: none}, {m: fix("f", "x", unit(), v(9), large()), want: big},
		{m: inj(0, sum(unit(), v(8)), large()), want: none}, {m: inj(0, unit(), large()), want: none}, {m: inj(2, two, large()), want: none}, {m: inj(1, two, large()), want: big}, {m: inj(0, sum(integer()), large()), want: big},
		{m: fold(mu(1, v(8)), large()), want: none}, {m: fold(two, large()), want: none}, {m: fold(list, large()), want: big}, {m: inst(v(8), large()), want: none}, {m: inst(v(9), large()), want: big},
		{m: pack(v(8), packed, large()), want: none}, {m: pack(unit(), some(1, v(8)), large()), want: none}, {m: pack(unit(), unit(), large()), want: none}, {m: pack(unit(), all(1, v(1)), large()), want: none}, {m: fold(all(1, v(1)), large()), want: none}, {m: fold(some(1, v(1)), large()), want: none}, {m: pack(unit(), packed, large()), want: big},
		{m: xall(9, large()), want: none}, {m: xall(3, large()), want: big}, {m: xall(3, xall(3, large())), want: none}, {m: xall(9, bad()), want: none},
	})
}

// TestSizesLast: a term's own type is asked for its size behind all else that must be of it, but for XFix' own one, and for types that come of putting in.
func TestSizesLast(t *testing.T) {
	most, more := nodes(kernel.MaxTT), nodes(kernel.MaxTT+1)
	twice := mu(1, pair(v(1), nodes(kernel.MaxTT/2-1)))             // has more than MaxTT nodes unfolded
	hidden, hides := nodes(kernel.MaxTT/2), some(1, fn(v(1), v(1))) // would have one more than MaxTT
	askOrder(t, []asked{
		{m: lam("x", more, bad()), want: none}, {m: lam("x", more, xunit()), want: big}, {m: lam("x", more, x("x")), want: big}, {m: lam("x", pair(more, v(8)), xunit()), want: none},
		// XFix: behind that its types are in scope, ahead of its Kid.
		{m: fix("f", "x", most, unit(), bad()), want: big}, {m: fix("f", "x", more, unit(), bad()), want: big}, {m: fix("f", "x", unit(), most, xunit()), want: big}, {m: fix("f", "x", pair(more, v(8)), unit(), xunit()), want: none}, {m: fix("f", "x", more, v(8), xunit()), want: none}, {m: fix("f", "x", nodes(kernel.MaxTT-2), unit(), bad()), want: none}, {m: fix("f", "x", nodes(kernel.MaxTT-2), unit(), xunit()), want: "1048576 nodes"}, {m: fix("f", "x", nodes(kernel.MaxTT-1), unit(), xint(1)), want: big}, {m: fix("f", "x", nodes(kernel.MaxTT-2), unit(), xint(1)), want: none}, {m: fix("f", "x", nodes(kernel.MaxTT-2), unit(), x("f")), want: none},
		{m: xpair(full(), bad()), want: none}, {m: xpair(bad(), full()), want: none}, {m: xpair(full(), full()), want: big}, {m: xrec("a b", full(), bad()), want: none}, {m: xrec("a b", full(), full()), want: big},
		{m: inj(0, sum(unit(), more), bad()), want: none}, {m: inj(0, sum(unit(), more), xint(1)), want: none}, {m: inj(0, sum(unit(), more), xunit()), want: big}, {m: inj(1, sum(unit(), more), xunit()), want: none}, {m: inj(1, sum(unit(), most), full()), want: big},
		{m: fold(mu(1, most), bad()), want: none}, {m: fold(mu(1, most), xunit()), want: none}, {m: fold(mu(1, most), full()), want: big}, {m: fold(mu(1, more), xunit()), want: big}, {m: fold(twice, xunit()), want: big}, {m: fold(twice, bad()), want: none}, {m: unfold(fail(twice)), want: big},
		{m: pack(unit(), some(1, most), bad()), want: none}, {m: pack(unit(), some(1, most), xunit()), want: none}, {m: pack(unit(), some(1, most), full()), want: big}, {m: pack(unit(), some(1, more), xunit()), want: big}, {m: pack(hidden, hides, bad()), want: none}, {m: pack(hidden, hides, xunit()), want: big}, {m: pack(more, some(1, unit()), xunit()), want: "some t0. unit"}, {m: pack(more, some(1, unit()), xint(1)), want: none},
		{m: inst(hidden, fail(all(1, fn(v(1), v(1))))), want: big}, {m: inst(more, x("general")), want: big}, {m: inst(more, fail(all(1, unit()))), want: "unit"}, {m: inst(more, xunit()), want: none}, {m: inst(most, x("general")), want: "1048576 nodes"},
		{m: xall(3, full()), want: big}, {m: fail(pair(more, v(8))), want: none}, {m: fail(more), want: big},
		// ErrBig is met ahead of what is wrong behind it, or around it.
		{m: app(xpair(full(), full()), bad()), want: big}, {m: app(app(xunit(), xunit()), xpair(full(), full())), want: none}, {m: bin(api.OAdd, xpair(full(), full()), xunit()), want: big}, {m: let("y", xpair(full(), full()), bad()), want: big},
	})
}
