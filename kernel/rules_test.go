package kernel_test

import (
	"math"
	"testing"

	"wafer/api"
)

func TestPlain(t *testing.T) {
	askAll(t, []asked{
		{xint(0), nil, nil, "int"}, {xint(math.MinInt64), nil, nil, "int"}, {xint(math.MaxInt64), []int{1}, binds("x", unit()), "int"},
		{xbool(0), nil, nil, "bool"}, {xbool(1), nil, nil, "bool"}, {xbool(2), nil, nil, notRight}, {xbool(-1), nil, nil, notRight},
		{xunit(), nil, nil, "unit"},
		{api.TM{}, nil, nil, notRight}, {tm(26), nil, nil, notRight}, {tm(-1), nil, nil, notRight}, {tm(math.MaxInt), nil, nil, notRight}, {tm(math.MinInt), nil, nil, notRight},
		{api.TM{Kind: api.XInt, N: 1}, nil, nil, notRight}, {tm(api.XUnit, xunit()), nil, nil, notRight},
	})
}

func TestNames(t *testing.T) {
	askAll(t, []asked{
		{x("x"), nil, binds("x", integer()), "int"}, {x("x"), nil, nil, none}, {x("x"), nil, binds("y", integer()), none}, {x(""), nil, binds("", integer()), "int"}, {x(""), nil, binds("x", integer()), none},
		{x("x"), []int{3}, binds("x", v(3)), "#3"},
		// The last one of a name counts.
		{x("x"), nil, binds("x", integer(), "x", boolean()), "bool"}, {x("x"), nil, binds("x", integer(), "y", unit(), "x", boolean(), "z", unit()), "bool"}, {x("y"), nil, binds("x", integer(), "y", unit(), "x", boolean()), "unit"},
		// The types of l are not asked for.
		{x("x"), nil, binds("x", v(3)), "#3"}, {xint(1), nil, binds("x", v(3), "y", api.TT{}, "z", tt(api.GFn, 7)), "int"}, {x("x"), nil, binds("x", api.TT{}, "x", unit()), "unit"},
		// A binder inside is nearer, and only inside.
		{lam("x", integer(), x("x")), nil, binds("x", boolean()), "int -> int"},
		{lam("y", integer(), x("x")), nil, binds("x", boolean()), "int -> bool"},
		{xpair(lam("x", integer(), x("x")), x("x")), nil, binds("x", boolean()), "((int -> int) * bool)"},
		{xpair(lam("x", integer(), x("x")), x("x")), nil, nil, none},
		{xpair(x("x"), lam("x", integer(), x("x"))), nil, nil, none},
		{lam("x", integer(), lam("x", boolean(), x("x"))), nil, nil, "int -> bool -> bool"},
		{lam("x", integer(), xpair(lam("x", boolean(), x("x")), x("x"))), nil, nil, "int -> ((bool -> bool) * int)"},
	})
}

func TestFunctions(t *testing.T) {
	f := binds("f", fn(integer(), boolean()), "n", integer(), "b", boolean())
	askAll(t, []asked{
		{lam("x", integer(), xunit()), nil, nil, "int -> unit"},
		{lam("x", v(1), x("x")), []int{1}, nil, "#1 -> #1"}, {lam("x", v(1), x("x")), []int{2}, nil, none}, {lam("x", v(1), xunit()), nil, nil, none},
		{lam("x", all(1, v(1)), x("x")), nil, nil, "(all t0. t0) -> all t0. t0"},
		{lam("x", integer(), x("y")), nil, nil, none},
		{api.TM{Kind: api.XLam, Name: "x", Kids: []api.TM{xunit()}}, nil, nil, notRight}, {lam("x", tt(api.GInt, 1), xunit()), nil, nil, notRight},

		{app(x("f"), x("n")), nil, f, "bool"}, {app(x("f"), x("b")), nil, f, none}, {app(x("n"), x("f")), nil, f, none}, {app(x("n"), x("n")), nil, f, none}, {app(x("f"), x("f")), nil, f, none},
		{app(lam("x", integer(), x("x")), xint(1)), nil, nil, "int"}, {app(x("g"), x("n")), nil, f, none}, {app(x("f"), x("m")), nil, f, none},
		{app(x("f"), x("a")), nil, binds("f", fn(all(1, fn(v(1), v(2))), v(2)), "a", all(3, fn(v(3), v(2)))), "#2"},
		{app(x("f"), x("a")), nil, binds("f", fn(all(1, fn(v(1), v(2))), v(2)), "a", all(2, fn(v(2), v(2)))), none},
		{app(x("p"), x("n")), nil, binds("p", pair(integer(), boolean()), "n", integer()), none},

		{fix("f", "x", integer(), boolean(), app(x("f"), x("x"))), nil, nil, "int -> bool"},
		{fix("f", "x", integer(), boolean(), x("x")), nil, nil, none}, {fix("f", "x", integer(), integer(), x("x")), nil, nil, "int -> int"},
		{fix("f", "x", integer(), fn(integer(), integer()), x("f")), nil, nil, none}, {fix("f", "x", integer(), integer(), x("f")), nil, nil, none},
		{fix("f", "x", v(1), integer(), xint(1)), nil, nil, none}, {fix("f", "x", integer(), v(1), fail(integer())), nil, nil, none}, {fix("f", "x", v(1), v(2), app(x("f"), x("x"))), []int{1, 2}, nil, "#1 -> #2"},
		{fix("f", "x", v(1), v(2), app(x("f"), x("x"))), []int{1}, nil, none}, {fix("f", "x", v(1), v(2), app(x("f"), x("x"))), []int{2}, nil, none},
		{fix("f", "x", integer(), all(1, fn(v(1), v(1))), xall(7, lam("x", v(7), x("x")))), nil, nil, "int -> all t0. t0 -> t0"},
		// The parameter is the nearer one.
		{fix("x", "x", integer(), integer(), x("x")), nil, nil, "int -> int"}, {fix("x", "x", integer(), boolean(), app(x("x"), xint(1))), nil, nil, none},
		{fix("x", "x", fn(integer(), boolean()), boolean(), app(x("x"), xint(1))), nil, nil, "(int -> bool) -> bool"},
		// Both are there only inside, and what they hide is there again behind.
		{xpair(fix("x", "x", integer(), integer(), x("x")), x("x")), nil, binds("x", unit()), "((int -> int) * unit)"}, {xpair(fix("f", "x", integer(), integer(), x("x")), x("f")), nil, nil, none}, {xpair(fix("f", "x", integer(), integer(), x("x")), x("x")), nil, nil, none},
		{fix("f", "x", integer(), integer(), x("y")), nil, nil, none}, {fix("f", "x", integer(), integer(), x("y")), nil, binds("y", integer()), "int -> int"},

		{let("x", xint(1), xpair(x("x"), x("x"))), nil, nil, "(int * int)"}, {let("x", x("x"), x("x")), nil, nil, none}, {let("x", x("x"), x("x")), nil, binds("x", unit()), "unit"},
		{let("x", xint(1), x("y")), nil, nil, none}, {let("x", x("y"), xint(1)), nil, nil, none}, {let("x", xint(1), xunit()), nil, nil, "unit"},
		{let("x", xint(1), let("x", xpair(x("x"), x("x")), x("x"))), nil, nil, "(int * int)"}, {xpair(let("x", xint(1), x("x")), x("x")), nil, binds("x", unit()), "(int * unit)"},
		// A name that is let keeps its type where a number is bound that hides none.
		{let("x", fail(fn(v(1), v(2))), xall(3, x("x"))), []int{1, 2}, nil, "all t0. #1 -> #2"},
	})
}

func TestPairsAndRecords(t *testing.T) {
	p, r := binds("p", pair(integer(), boolean())), binds("r", rec("a b c", integer(), boolean(), unit()))
	askAll(t, []asked{
		{xpair(xint(1), xunit()), nil, nil, "(int * unit)"}, {xpair(x("y"), xunit()), nil, nil, none}, {xpair(xunit(), x("y")), nil, nil, none},
		{tm(api.XFst, x("p")), nil, p, "int"}, {tm(api.XSnd, x("p")), nil, p, "bool"}, {tm(api.XFst, xint(1)), nil, nil, none}, {tm(api.XSnd, xint(1)), nil, nil, none}, {tm(api.XFst, x("q")), nil, p, none}, {tm(api.XSnd, x("q")), nil, p, none},
		{tm(api.XFst, x("r")), nil, r, none}, {tm(api.XFst, x("f")), nil, binds("f", fn(integer(), unit())), none}, {tm(api.XSnd, x("f")), nil, binds("f", sum(integer(), unit())), none},
		{tm(api.XFst), nil, nil, notRight}, {tm(api.XSnd, x("p"), x("p")), nil, p, notRight},

		{xrec(""), nil, nil, "{}"}, {xrec("a", xint(1)), nil, nil, "{a: int}"}, {xrec("a b", xint(1), xunit()), nil, nil, "{a: int, b: unit}"}, {xrec("a b", xint(1), x("z")), nil, nil, none},
		{xrec("a b", lam("x", integer(), x("x")), x("x")), nil, nil, none}, {xrec("b a", xint(1), xint(1)), nil, nil, notRight}, {xrec("a a", xint(1), xint(1)), nil, nil, notRight}, {xrec("a", xint(1), xint(1)), nil, nil, notRight},
		{sel("a", x("r")), nil, r, "int"}, {sel("b", x("r")), nil, r, "bool"}, {sel("c", x("r")), nil, r, "unit"}, {sel("", x("r")), nil, r, none}, {sel("aa", x("r")), nil, r, none}, {sel("d", x("r")), nil, r, none},
		{sel("a", xrec("")), nil, nil, none}, {sel("", api.TM{Kind: api.XRec, Labels: []string{""}, Kids: []api.TM{xint(1)}}), nil, nil, "int"}, {sel("a", xint(1)), nil, nil, none}, {sel("a", x("p")), nil, p, none}, {sel("a", x("q")), nil, r, none},
		{sel("x()", xrec("Nil() out x x x()", xint(1), xunit(), xunit(), xbool(1))), nil, nil, notRight},
		{sel("B", xrec("A B a", xint(1), xunit(), xbool(1))), nil, nil, "unit"},

		{tm(api.XIf, xbool(1), xint(1), xint(2)), nil, nil, "int"}, {tm(api.XIf, xint(1), xint(1), xint(2)), nil, nil, none}, {tm(api.XIf, xbool(1), xint(1), xunit()), nil, nil, none}, {tm(api.XIf, xbool(1), xunit(), xint(1)), nil, nil, none},
		{tm(api.XIf, x("z"), xint(1), xint(2)), nil, nil, none}, {tm(api.XIf, xbool(1), x("z"), xint(2)), nil, nil, none}, {tm(api.XIf, xbool(1), xint(1), x("z")), nil, nil, none},
		{tm(api.XIf, xbool(1), identity1(1), identity1(2)), nil, nil, "all t0. t0 -> t0"},
	})
	for op := api.OAdd; op <= api.OLt; op++ {
		want := "int"
		if op == api.OEq || op == api.OLt {
			want = "bool"
		}
		askAll(t, []asked{
			{bin(op, xint(1), xint(2)), nil, nil, want}, {bin(op, xint(1), xbool(1)), nil, nil, none}, {bin(op, xbool(1), xint(1)), nil, nil, none}, {bin(op, xbool(1), xbool(1)), nil, nil, none}, {bin(op, xunit(), xint(1)), nil, nil, none},
			{bin(op, x("z"), xint(1)), nil, nil, none}, {bin(op, xint(1), x("z")), nil, nil, none},
		})
	}
	askAll(t, []asked{{bin(0, xint(1), xint(1)), nil, nil, notRight}, {bin(7, xint(1), xint(1)), nil, nil, notRight}})
}

func TestSums(t *testing.T) {
	two := sum(integer(), boolean())
	s := binds("s", two, "e", sum(), "o", sum(unit()))
	askAll(t, []asked{
		{inj(0, two, xint(1)), nil, nil, "[int | bool]"}, {inj(1, two, xbool(1)), nil, nil, "[int | bool]"}, {inj(0, two, xbool(1)), nil, nil, none}, {inj(1, two, xint(1)), nil, nil, none},
		{inj(2, two, xint(1)), nil, nil, none}, {inj(2, two, xbool(1)), nil, nil, none}, {inj(math.MaxInt, two, xint(1)), nil, nil, none}, {inj(-1, two, xint(1)), nil, nil, notRight}, {inj(math.MinInt, two, xint(1)), nil, nil, notRight}, {inj(0, sum(), xint(1)), nil, nil, none}, {inj(1, sum(integer()), xint(1)), nil, nil, none},
		{inj(0, pair(integer(), integer()), xint(1)), nil, nil, none}, {inj(0, rec("a", integer()), xint(1)), nil, nil, none}, {inj(0, integer(), xint(1)), nil, nil, none}, {inj(0, mu(1, sum(unit(), v(1))), xunit()), nil, nil, none},
		{inj(0, sum(integer(), v(1)), xint(1)), nil, nil, none}, {inj(0, sum(integer(), v(1)), xint(1)), []int{1}, nil, "[int | #1]"}, {inj(0, two, x("z")), nil, nil, none},
		{inj(0, sum(all(1, fn(v(1), v(1)))), identity1(5)), nil, nil, "[(all t0. t0 -> t0)]"},

		{xcase("a b", x("s"), x("a"), xint(1)), nil, s, "int"}, {xcase("a b", x("s"), xbool(1), x("b")), nil, s, "bool"}, {xcase("a b", x("s"), x("a"), x("b")), nil, s, none}, {xcase("a a", x("s"), xpair(x("a"), xbool(1)), xpair(xint(1), x("a"))), nil, s, "(int * bool)"},
		{xcase("a b", x("s"), xint(1), x("a")), nil, s, none}, {xcase("a b", x("s"), x("b"), xbool(1)), nil, s, none}, {xcase("s b", x("s"), x("s"), xint(1)), nil, s, "int"}, {xpair(xcase("s b", x("s"), x("s"), xint(1)), x("s")), nil, s, "(int * [int | bool])"},
		{xcase("a b", x("a"), xint(1), xint(1)), nil, s, none}, {xcase("a b", x("s"), xint(1), xint(1)), nil, s, "int"}, {xcase("a b", x("s"), xint(1), xunit()), nil, s, none}, {xcase("a b", x("s"), xunit(), xint(1)), nil, s, none},
		// Another number of branches than the sum has Kids, or none.
		{xcase("a", x("s"), xint(1)), nil, s, none}, {xcase("a b c", x("s"), xint(1), xint(1), xint(1)), nil, s, none}, {xcase("", x("s")), nil, s, none}, {xcase("", x("e")), nil, s, none}, {xcase("", xint(1)), nil, s, none}, {xcase("a", x("e"), xint(1)), nil, s, none}, {xcase("a", x("o"), x("a")), nil, s, "unit"}, {xcase("a b", x("o"), x("a"), x("a")), nil, s, none},
		{xcase("a b", x("s"), xint(1)), nil, s, notRight}, {xcase(""), nil, s, notRight},
		// No sum.
		{xcase("a b", x("p"), xint(1), xint(1)), nil, binds("p", pair(unit(), unit())), none}, {xcase("a b", x("p"), xint(1), xint(1)), nil, binds("p", rec("a b", unit(), unit())), none}, {xcase("a", xint(1), xint(1)), nil, nil, none}, {xcase("a", x("p"), xint(1)), nil, binds("p", mu(1, v(1))), none},
		// Each branch is one with the first.
		{xcase("a b c", x("t"), identity1(1), identity1(2), identity1(3)), nil, binds("t", sum(unit(), unit(), unit())), "all t0. t0 -> t0"},
		{xcase("a b c", x("t"), xint(1), xint(2), xunit()), nil, binds("t", sum(unit(), unit(), unit())), none}, {xcase("a b c", x("t"), xint(1), xunit(), xint(2)), nil, binds("t", sum(unit(), unit(), unit())), none}, {xcase("a b c", x("t"), xint(1), xunit(), xunit()), nil, binds("t", sum(unit(), unit(), unit())), none},
		{xcase("a b c", x("t"), x("z"), xint(1), xint(1)), nil, binds("t", sum(unit(), unit(), unit())), none}, {xcase("a b c", x("t"), xint(1), xint(1), x("z")), nil, binds("t", sum(unit(), unit(), unit())), none},
	})
}

func TestFolds(t *testing.T) {
	list := mu(1, sum(unit(), pair(integer(), v(1))))
	unfolded := sum(unit(), pair(integer(), mu(5, sum(unit(), pair(integer(), v(5))))))
	askAll(t, []asked{
		{fold(list, fail(unfolded)), nil, nil, "mu t0. [unit | (int * t0)]"}, {fold(list, inj(0, unfolded, xunit())), nil, nil, "mu t0. [unit | (int * t0)]"}, {fold(list, fail(list)), nil, nil, none}, {fold(list, fail(sum(unit(), pair(integer(), v(1))))), []int{1}, nil, none},
		{fold(list, xunit()), nil, nil, none}, {fold(unfolded, fail(unfolded)), nil, nil, none}, {fold(integer(), xint(1)), nil, nil, none}, {fold(all(1, integer()), xint(1)), nil, nil, none}, {fold(some(1, integer()), xint(1)), nil, nil, none}, {fold(mu(1, integer()), xint(1)), nil, nil, "mu t0. int"},
		{fold(mu(1, pair(v(2), v(1))), fail(pair(v(2), mu(1, pair(v(2), v(1)))))), []int{2}, nil, "mu t0. (#2 * t0)"}, {fold(mu(1, v(2)), fail(integer())), nil, nil, none}, {fold(mu(1, v(2)), x("y")), nil, binds("y", v(2)), none}, {fold(mu(1, v(2)), x("y")), []int{2}, binds("y", v(2)), "mu t0. #2"}, {fold(list, x("z")), nil, nil, none},
		{unfold(fail(list)), nil, nil, "[unit | (int * (mu t0. [unit | (int * t0)]))]"}, {unfold(fail(unfolded)), nil, nil, none}, {unfold(xint(1)), nil, nil, none}, {unfold(fail(all(1, v(1)))), nil, nil, none}, {unfold(fail(some(1, v(1)))), nil, nil, none}, {unfold(x("z")), nil, nil, none}, {unfold(fail(mu(1, v(1)))), nil, nil, "mu t0. t0"},
		{unfold(fold(list, fail(unfolded))), nil, nil, "[unit | (int * (mu t0. [unit | (int * t0)]))]"}, {fold(list, unfold(fail(list))), nil, nil, "mu t0. [unit | (int * t0)]"}, {tm(api.XUnfold), nil, nil, notRight}, {unfold(fail(mu(1, v(2)))), nil, nil, none},
		// The free 2 is not caught by the 2 that is bound inside.
		{unfold(fail(mu(1, pair(v(2), all(2, pair(v(1), v(2))))))), []int{2}, nil, "(#2 * (all t0. ((mu t1. (#2 * (all t2. (t1 * t2)))) * t0)))"},
		{fold(mu(1, all(2, pair(v(1), v(2)))), fail(all(9, pair(mu(1, all(2, pair(v(1), v(2)))), v(9))))), nil, nil, "mu t0. all t1. (t0 * t1)"},
		{fold(mu(1, pair(v(2), all(2, pair(v(1), v(2))))), fail(pair(v(2), all(7, pair(mu(1, pair(v(2), all(3, pair(v(1), v(3))))), v(7)))))), []int{2}, nil, "mu t0. (#2 * (all t1. (t0 * t1)))"},
		{fold(mu(1, pair(v(2), all(2, pair(v(1), v(2))))), fail(pair(v(2), all(2, pair(mu(1, pair(v(2), all(3, pair(v(1), v(3))))), v(2)))))), []int{2}, nil, none},
	})
}

func TestAllsAndInstances(t *testing.T) {
	askAll(t, []asked{
		{identity(), nil, nil, "all t0. t0 -> t0"}, {xall(1, xint(1)), nil, nil, "all t0. int"}, {xall(-5, fail(v(-5))), nil, nil, "all t0. t0"}, {xall(1, fail(v(2))), nil, nil, none}, {xall(1, fail(v(2))), []int{2}, nil, "all t0. #2"}, {xall(1, x("z")), nil, nil, none},
		// The number must be new; it is in scope only inside, so that one beside it may have it too.
		{xall(1, xint(1)), []int{1}, nil, none}, {xall(1, xint(1)), []int{3, 1, 2}, nil, none}, {xall(1, xall(1, xint(1))), nil, nil, none}, {xall(1, xall(2, xall(1, xint(1)))), nil, nil, none}, {xall(1, xall(2, fail(fn(v(1), v(2))))), nil, nil, "all t0. all t1. t0 -> t1"}, {xall(2, xall(1, fail(fn(v(1), v(2))))), nil, nil, "all t0. all t1. t1 -> t0"},
		{xpair(identity(), identity()), nil, nil, "((all t0. t0 -> t0) * (all t0. t0 -> t0))"}, {xpair(identity(), fail(v(1))), nil, nil, none}, {xpair(fail(v(1)), identity()), nil, nil, none}, {xall(1, open(1, "x", fail(some(2, v(2))), xint(1))), nil, nil, none},
		// A type inside may bind the same number.
		{xall(1, fail(all(1, v(1)))), nil, nil, "all t0. all t1. t1"}, {xall(1, fail(pair(all(1, v(1)), v(1)))), nil, nil, "all t0. ((all t1. t1) * t0)"},

		{inst(integer(), identity()), nil, nil, "int -> int"}, {inst(v(2), identity()), []int{2}, nil, "#2 -> #2"}, {inst(v(2), identity()), nil, nil, none}, {inst(v(1), identity()), nil, nil, none}, {inst(v(1), fail(all(1, fn(v(1), v(1))))), []int{1}, nil, "#1 -> #1"}, {inst(integer(), xint(1)), nil, nil, none}, {inst(integer(), fail(mu(1, v(1)))), nil, nil, none}, {inst(integer(), fail(some(1, v(1)))), nil, nil, none}, {inst(integer(), x("z")), nil, nil, none},
		{inst(integer(), fail(all(1, boolean()))), nil, nil, "bool"}, {inst(integer(), inst(boolean(), fail(all(1, all(2, fn(v(1), v(2))))))), nil, nil, "bool -> int"}, {inst(all(1, fn(v(1), v(1))), identity()), nil, nil, "(all t0. t0 -> t0) -> all t0. t0 -> t0"},
		// What is put in is not caught.
		{inst(v(2), fail(all(1, all(2, fn(v(1), v(2)))))), []int{2}, nil, "all t0. #2 -> t0"}, {inst(v(2), fail(all(1, mu(2, fn(v(1), v(2)))))), []int{2}, nil, "mu t0. #2 -> t0"}, {inst(pair(v(2), v(3)), fail(all(1, all(2, some(3, sum(v(1), v(2), v(3))))))), []int{2, 3}, nil, "all t0. some t1. [(#2 * #3) | t0 | t1]"},
		{inst(v(2), fail(all(1, all(1, fn(v(1), v(2)))))), []int{2}, nil, "all t0. t0 -> #2"}, {xall(2, inst(v(2), fail(all(1, all(2, fn(v(1), v(2))))))), nil, nil, "all t0. all t1. t0 -> t1"},
	})
}

func TestPacks(t *testing.T) {
	ints := some(2, pair(v(2), fn(v(2), integer())))
	body := xpair(xint(1), lam("n", integer(), x("n")))
	askAll(t, []asked{
		{pack(integer(), ints, body), nil, nil, "some t0. (t0 * (t0 -> int))"}, {pack(boolean(), ints, body), nil, nil, none}, {pack(integer(), ints, xint(1)), nil, nil, none}, {pack(integer(), ints, x("z")), nil, nil, none}, {pack(integer(), some(2, integer()), xint(1)), nil, nil, "some t0. int"},
		{pack(integer(), pair(integer(), integer()), xpair(xint(1), xint(1))), nil, nil, none}, {pack(integer(), all(2, v(2)), xint(1)), nil, nil, none}, {pack(integer(), mu(2, v(2)), xint(1)), nil, nil, none}, {pack(integer(), integer(), xint(1)), nil, nil, none}, {pack(some(2, v(2)), integer(), xint(1)), nil, nil, none},
		// Both types in scope.
		{pack(v(1), some(2, v(2)), x("y")), []int{1}, binds("y", v(1)), "some t0. t0"}, {pack(v(1), some(2, v(2)), x("y")), nil, binds("y", v(1)), none}, {pack(v(1), some(2, integer()), xint(1)), nil, nil, none}, {pack(integer(), some(2, pair(v(2), v(3))), x("y")), nil, binds("y", pair(integer(), v(3))), none}, {pack(integer(), some(2, pair(v(2), v(3))), x("y")), []int{3}, binds("y", pair(integer(), v(3))), "some t0. (t0 * #3)"}, {pack(v(2), some(2, v(2)), fail(integer())), nil, nil, none},
		// What is put in is not caught.
		{pack(v(3), some(2, all(3, fn(v(2), v(3)))), x("y")), []int{3}, binds("y", all(9, fn(v(3), v(9)))), "some t0. all t1. t0 -> t1"}, {pack(v(3), some(2, all(3, fn(v(2), v(3)))), x("y")), []int{3}, binds("y", all(9, fn(v(9), v(9)))), none},
		{pack(v(2), some(2, fn(v(2), integer())), x("y")), []int{2}, binds("y", fn(v(2), integer())), "some t0. t0 -> int"},

		{open(1, "x", pack(integer(), ints, body), app(tm(api.XSnd, x("x")), tm(api.XFst, x("x")))), nil, nil, "int"}, {open(1, "x", pack(integer(), ints, body), bin(api.OAdd, tm(api.XFst, x("x")), xint(1))), nil, nil, none},
		{open(1, "x", pack(integer(), ints, body), tm(api.XFst, x("x"))), nil, nil, none}, {open(1, "x", pack(integer(), ints, body), lam("y", v(1), xint(1))), nil, nil, none}, {open(1, "x", pack(integer(), ints, body), pack(v(1), ints, x("x"))), nil, nil, "some t0. (t0 * (t0 -> int))"}, {open(1, "x", pack(integer(), ints, body), app(lam("y", v(1), xint(1)), tm(api.XFst, x("x")))), nil, nil, "int"},
		{open(1, "x", pack(integer(), ints, body), fail(all(1, v(1)))), nil, nil, "all t0. t0"}, {open(1, "x", pack(integer(), ints, body), fail(sum(all(1, v(1)), v(1)))), nil, nil, none}, {open(1, "x", fail(some(1, v(1))), xint(1)), nil, nil, "int"},
		// The first must be a GEx; what is bound is there only in the second.
		{open(1, "x", xint(1), xint(1)), nil, nil, none}, {open(1, "x", fail(all(2, v(2))), xint(1)), nil, nil, none}, {open(1, "x", fail(mu(2, v(2))), xint(1)), nil, nil, none}, {open(1, "x", fail(some(2, v(1))), xint(1)), nil, nil, none}, {open(1, "x", fail(some(2, v(2))), fail(v(2))), nil, nil, none}, {open(1, "x", x("x"), xint(1)), nil, nil, none}, {open(1, "x", x("x"), xint(1)), nil, binds("x", some(2, v(2))), "int"}, {xpair(open(1, "x", fail(some(2, v(2))), xint(1)), x("x")), nil, nil, none}, {xpair(open(1, "x", fail(some(2, v(2))), xint(1)), fail(v(1))), nil, nil, none}, {xpair(open(1, "x", fail(some(2, v(2))), xint(1)), x("x")), nil, binds("x", unit()), "(int * unit)"}, {open(1, "x", fail(some(2, v(2))), x("z")), nil, nil, none}, {open(1, "x", x("z"), xint(1)), nil, nil, none},
		// The number must be new.
		{open(1, "x", fail(some(2, v(2))), xint(1)), []int{1}, nil, none}, {open(1, "x", fail(some(2, v(2))), xint(1)), []int{2}, nil, "int"}, {open(1, "x", fail(some(2, v(2))), open(1, "y", fail(some(2, v(2))), xint(1))), nil, nil, none}, {open(1, "x", open(1, "y", fail(some(2, v(2))), fail(some(2, v(2)))), xint(1)), nil, nil, "int"}, {open(1, "x", fail(some(2, v(2))), open(2, "y", fail(some(2, v(2))), xint(1))), nil, nil, "int"}, {open(1, "x", fail(some(2, v(2))), xall(1, xint(1))), nil, nil, none}, {xall(1, open(2, "x", fail(some(2, v(2))), fail(v(1)))), nil, nil, "all t0. t0"},
		{xpair(open(1, "x", fail(some(2, v(2))), xint(1)), open(1, "x", fail(some(2, v(2))), xint(1))), nil, nil, "(int * int)"},
		// What is put in is not caught.
		{open(1, "x", fail(some(2, all(1, fn(v(2), v(1))))), pack(v(1), some(5, all(6, fn(v(5), v(6)))), x("x"))), nil, nil, "some t0. all t1. t0 -> t1"}, {open(1, "x", fail(some(2, all(1, fn(v(2), v(1))))), pack(v(1), some(5, all(6, fn(v(6), v(6)))), x("x"))), nil, nil, none},
		{open(1, "x", fail(some(1, some(1, v(1)))), open(2, "y", x("x"), pack(v(2), some(3, v(3)), x("y")))), nil, nil, "some t0. t0"}, {open(1, "x", fail(some(1, some(1, v(1)))), open(2, "y", x("x"), pack(v(1), some(3, v(3)), x("y")))), nil, nil, none},
	})
}

func TestFailuresAndSteps(t *testing.T) {
	askAll(t, []asked{
		{fail(integer()), nil, nil, "int"}, {fail(v(1)), nil, nil, none}, {fail(v(1)), []int{1}, nil, "#1"}, {fail(all(1, v(1))), nil, nil, "all t0. t0"}, {fail(pair(v(1), v(2))), []int{1}, nil, none}, {fail(tt(api.GFn, 0, unit())), nil, nil, notRight}, {tm(api.XFail), nil, nil, notRight},
		{tick(xint(1)), nil, nil, "int"}, {tick(x("z")), nil, nil, none}, {tick(tick(lam("x", unit(), x("x")))), nil, nil, "unit -> unit"}, {tm(api.XTick), nil, nil, notRight},
	})
}

// TestWrongInNames: types of l that are not right: any error or type may come, but the calls end; and what is not named does not count.
func TestWrongInNames(t *testing.T) {
	wrong := []api.TT{{}, tt(-1, 0), tt(99, 5, v(1))}
	for kind := api.GInt; kind <= api.GEx; kind++ {
		for kids := range 4 {
			w := tt(kind, 1)
			for range kids {
				w.Kids = append(w.Kids, v(1))
			}
			wrong = append(wrong, w)
			w.Labels = []string{"b", "a"}
			wrong = append(wrong, w)
			w.Labels = []string{"a", "b", "c", "d", "e"}
			wrong = append(wrong, w)
		}
	}
	for _, w := range wrong {
		l := binds("w", w, "i", integer())
		for _, m := range []api.TM{
			x("w"), app(x("w"), x("i")), app(x("w"), x("w")), app(x("i"), x("w")), tm(api.XFst, x("w")), tm(api.XSnd, x("w")), tm(api.XIf, x("w"), x("w"), x("w")), bin(api.OAdd, x("w"), x("w")), xrec("a b", x("w"), x("w")),
			sel("a", x("w")), sel("b", x("w")), sel("e", x("w")), inj(0, sum(unit()), x("w")), xcase("", x("w")), xcase("a", x("w"), x("a")), xcase("a b", x("w"), x("a"), x("b")), fold(mu(1, v(1)), x("w")), unfold(x("w")), unfold(unfold(x("w"))),
			xall(2, x("w")), inst(integer(), x("w")), pack(integer(), some(1, v(1)), x("w")), open(3, "y", x("w"), x("y")), open(3, "y", x("w"), xint(1)), tick(x("w")), let("y", x("w"), xpair(x("y"), x("w"))), lam("y", unit(), x("w")), fix("f", "y", unit(), unit(), x("w")),
		} {
			answer(kernelCheck(m, l))
		}
		if got := answer(kernelCheck(app(lam("w", unit(), x("w")), xunit()), l)); got != "unit" {
			t.Errorf("a name that is hidden: %s", got)
		}
	}
}
