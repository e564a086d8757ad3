package trans_test

import (
	"math"
	"testing"

	"wafer/api"
	"wafer/target"
	"wafer/trans"
)

func wantStr(t *testing.T, s api.Str, want api.TT, wantCode api.Errno) {
	t.Helper()
	got, code := trans.Str(s)
	answers(t, "Str "+tell(s), got, code, want, wantCode)
}

func wantAbs(t *testing.T, a api.Abs, want api.TT, wantCode api.Errno) {
	t.Helper()
	got, code := trans.Abs(a)
	answers(t, "Abs "+tell(a), got, code, want, wantCode)
}

func wantFun(t *testing.T, f api.Fun, want api.TT, wantCode api.Errno) {
	t.Helper()
	got, code := trans.Fun(f)
	answers(t, "Fun "+tell(f), got, code, want, wantCode)
}

// looks: a structure becomes that, wherever it stands.
func looks(t *testing.T, s api.Str, want api.TT) {
	t.Helper()
	wantStr(t, s, want, api.OK)
	wantAbs(t, api.Abs{S: s}, want, api.OK)
	wantAbs(t, api.Abs{Stamps: ints(9, 8), S: s}, some(9, some(8, want)), api.OK)
	within := str(api.SubMember{Name: "M", S: s})
	wantStr(t, within, rec(texts("M"), want), api.OK)
	wantFun(t, fun(nil, s, abs(nil)), gfn(want, rec(nil)), api.OK)
	wantFun(t, fun(ints(7), within, api.Abs{Stamps: ints(6), S: s}), all(7, gfn(rec(texts("M"), want), some(6, want))), api.OK)
}

// fails: a structure has that error, wherever it stands.
func fails(t *testing.T, s api.Str, code api.Errno) {
	t.Helper()
	m := api.SubMember{Name: "M", S: s}
	f := api.FunMember{Name: "F", F: fun(ints(1), s, abs(ints(2)))}
	g := api.FunMember{Name: "F", F: fun(ints(1), str(), api.Abs{Stamps: ints(2), S: s})}
	for _, s := range []api.Str{s, str(m), str(f), str(g), str(sub("A"), sub("N", m), val("x", integer())), str(functor("G", nil, str(), abs(nil)), f)} {
		wantStr(t, s, api.TT{}, code)
		wantAbs(t, api.Abs{S: s}, api.TT{}, code)
		wantAbs(t, api.Abs{Stamps: ints(0, 1, 2), S: s}, api.TT{}, code)
		wantFun(t, fun(ints(0, 1), s, abs(nil)), api.TT{}, code)
		wantFun(t, fun(nil, str(), api.Abs{Stamps: ints(1), S: s}), api.TT{}, code)
	}
}

// TestF143Example: the chapter's examples.
func TestF143Example(t *testing.T) {
	s := str(typ("t", stamp(5), list()...), val("x", integer()))
	want := rec(texts("Cons()", "Nil()", "out t", "x"), gfn(gpair(gint(), v(5)), v(5)), v(5), gfn(v(5), sum(gunit(), gpair(gint(), v(5)))), gint())
	looks(t, s, want)
	wantAbs(t, api.Abs{Stamps: ints(5, 7), S: s}, some(5, some(7, want)), api.OK)
}

// TestF143Fields: what comes of each field of a structure.
func TestF143Fields(t *testing.T) {
	looks(t, api.Str{}, rec(nil))
	looks(t, api.Str{Types: []api.TyMember{}, Vals: []api.ValMember{}, Subs: []api.SubMember{}, Funs: []api.FunMember{}, Sigs: []api.SigMember{}}, rec(nil))
	looks(t, str(val("x", fn(integer(), stamp(3)))), rec(texts("x"), gfn(gint(), v(3))))
	looks(t, str(poly("id", 1, fn(gen(0), pair(gen(0), stamp(3))))), rec(texts("id"), all(4, gfn(v(4), gpair(v(4), v(3))))))
	looks(t, str(poly("k", 2, fn(gen(0), fn(gen(1), gen(0)))), val("y", unit())), rec(texts("k", "y"), all(0, all(1, gfn(v(0), gfn(v(1), v(0))))), gunit()))
	looks(t, str(typ("t", stamp(3), ctor("A"))), rec(texts("A()", "out t"), v(3), gfn(v(3), sum(gunit()))))
	looks(t, str(typ("t", stamp(0), ctor("B", boolean()), ctor("A", unit()))), rec(texts("A()", "B()", "out t"), gfn(gunit(), v(0)), gfn(gbool(), v(0)), gfn(v(0), sum(gbool(), gunit()))))
	looks(t, str(typ("t", stamp(top), ctor("A", stamp(top)))), rec(texts("A()", "out t"), gfn(v(top), v(top)), gfn(v(top), sum(v(top)))))
	// Two types may have one stamp.
	looks(t, str(typ("t", stamp(3), ctor("A")), typ("u", stamp(3), ctor("B", stamp(3)))), rec(texts("A()", "B()", "out t", "out u"), v(3), gfn(v(3), v(3)), gfn(v(3), sum(gunit())), gfn(v(3), sum(v(3)))))
	looks(t, str(sub("M")), rec(texts("M"), rec(nil)))
	looks(t, str(sub("M", val("x", integer()), sub("N", typ("t", stamp(1), ctor("C"))))), rec(texts("M"), rec(texts("N", "x"), rec(texts("C()", "out t"), v(1), gfn(v(1), sum(gunit()))), gint())))
	looks(t, str(functor("F", nil, str(), abs(nil))), rec(texts("F"), gfn(rec(nil), rec(nil))))
	looks(t, str(functor("F", ints(4, 2), str(val("x", stamp(4))), abs(ints(3, 8), val("y", stamp(3)), val("z", stamp(2))))), rec(texts("F"), all(4, all(2, gfn(rec(texts("x"), v(4)), some(3, some(8, rec(texts("y", "z"), v(3), v(2)))))))))
}

// TestF143NoLabels: types without Ctors, and signatures, leave no trace, whatever they are called and have.
func TestF143NoLabels(t *testing.T) {
	looks(t, str(typ("t", integer()), typ("u", fn(stamp(3), unit()))), rec(nil))
	looks(t, str(typ("t", integer()), typ("t", stamp(1)), val("t", boolean())), rec(texts("t"), gbool()))
	looks(t, str(typ("t", stamp(1), ctor("A")), typ("t", stamp(1)), typ("A()", stamp(2))), rec(texts("A()", "out t"), v(1), gfn(v(1), sum(gunit()))))
	looks(t, str(api.TyMember{Name: "t", T: integer(), Ctors: []api.Ctor{}}), rec(nil))
	looks(t, str(sig("S", ints(1), typ("t", stamp(1), ctor("A")), val("x", stamp(1)))), rec(nil))
	looks(t, str(sub("S"), sig("S", nil, val("x", integer())), sig("S", nil)), rec(texts("S"), rec(nil)))
	looks(t, str(typ("t", meta(1)), typ("u", stamp(-1)), typ("w", gen(0)), typ("z", stamp(top+1)), api.TyMember{}), rec(nil))
	looks(t, str(sig("S", ints(1, 1, -1), val("x", meta(0)), val("x", meta(0)))), rec(nil))
}

// TestF143Order: labels stand in the order of texts, whatever the order of the members, each with its own type.
func TestF143Order(t *testing.T) {
	// Blanks and parentheses are less than digits, these less than high letters, these less than low ones; a beginning is less than the whole.
	members := []any{
		val("out", integer()), val("out1", boolean()), val("a", unit()), val("ab", stamp(1)), val("z", stamp(2)),
		typ("t", stamp(3), ctor("B"), ctor("A", integer())), typ("a", stamp(4), ctor("B1")), sub("B"), sub("B1"), sub("Z"),
	}
	want := rec(texts("A()", "B", "B()", "B1", "B1()", "Z", "a", "ab", "out", "out a", "out t", "out1", "z"),
		gfn(gint(), v(3)), rec(nil), v(3), rec(nil), v(4), rec(nil), gunit(), v(1), gint(), gfn(v(4), sum(gunit())), gfn(v(3), sum(gunit(), gint())), gbool(), v(2))
	m := newMaker(0)
	for range 300 {
		wantStr(t, str(members...), want, api.OK)
		m.Shuffle(len(members), func(i, k int) { members[i], members[k] = members[k], members[i] })
	}
	// By bytes, not by letters.
	looks(t, str(val("\xff", integer()), val("\u00e4", boolean()), val("", unit()), val("z", stamp(1)), val("\x00", stamp(2))), rec(texts("", "\x00", "z", "\u00e4", "\xff"), gunit(), v(2), v(1), gbool(), gint()))
}

// TestF143Alike: two labels that are alike, of any two members.
func TestF143Alike(t *testing.T) {
	i := integer()
	f := functor("M", nil, str(), abs(nil))
	for _, s := range []api.Str{
		str(val("x", i), val("x", i)),
		str(val("x", i), val("y", i), val("x", boolean())),
		str(val("M", i), sub("M")),
		str(val("M", i), f),
		str(sub("M"), f),
		str(sub("M"), sub("N"), sub("M", val("x", i))),
		str(f, f),
		str(typ("t", stamp(1), ctor("A"), ctor("B"), ctor("A", i))),
		str(typ("t", stamp(1), ctor("A")), typ("u", stamp(2), ctor("A", i))),
		str(typ("t", stamp(1), ctor("A"), ctor("C")), typ("u", stamp(2), ctor("B"), ctor("C"))),
		str(typ("t", stamp(1), ctor("A")), typ("t", stamp(2), ctor("B"))),
		str(typ("t", stamp(1), ctor("A")), val("A()", i)),
		str(typ("t", stamp(1), ctor("A")), sub("A()")),
		str(typ("t", stamp(1), ctor("A")), val("out t", i)),
		str(typ("", stamp(1), ctor("A")), api.FunMember{Name: "out "}),
		str(typ("A()", stamp(1), ctor("out A"))),
		str(val("", i), sub("")),
	} {
		fails(t, s, api.ErrTwice)
	}
	// These are unlike.
	for _, s := range []api.Str{
		str(typ("t", stamp(1), ctor("A")), val("t", i), sub("A")),
		str(val("x", i), sub("M", val("x", i), sub("M"))),
		str(typ("t", stamp(1), ctor("A")), sub("M", typ("t", stamp(1), ctor("A")))),
		str(functor("F", nil, str(val("x", i)), abs(nil, val("x", i), f)), val("x", i)),
	} {
		want, code := plainStr(s)
		if code != api.OK {
			t.Fatalf("%s: %v", tell(s), code)
		}
		looks(t, s, want)
	}
}

// TestF143Wrong: datatypes that are no stamps, and errors of Type, Scheme, Sum and Con.
func TestF143Wrong(t *testing.T) {
	for _, x := range append(wrongs(), integer(), boolean(), unit(), fn(stamp(1), stamp(1)), pair(stamp(1), integer()), meta(1), gen(1), gen(0), stamp(top+1), stamp(math.MaxInt)) {
		fails(t, str(typ("t", x, ctor("A"))), api.ErrArg)
		fails(t, str(typ("t", x, ctor("A", integer()), ctor("B"))), api.ErrArg)
		fails(t, str(typ("s", stamp(1), ctor("C")), typ("t", x, ctor("A")), val("y", integer())), api.ErrArg)
	}
	for _, x := range append(wrongs(), meta(1), gen(1), stamp(top+1), stamp(math.MaxInt)) {
		fails(t, str(val("x", x)), api.ErrArg)
		fails(t, str(poly("x", 1, fn(gen(0), x))), api.ErrArg)
		fails(t, str(val("w", integer()), val("x", pair(integer(), x)), val("y", integer())), api.ErrArg)
		fails(t, str(typ("t", stamp(1), ctor("A", x))), api.ErrArg)
		fails(t, str(typ("t", stamp(1), ctor("A"), ctor("B", x))), api.ErrArg)
	}
	fails(t, str(val("x", gen(0))), api.ErrArg)
	fails(t, str(poly("x", 1, integer())), api.ErrArg)
	fails(t, str(poly("x", 2, fn(gen(1), gen(0)))), api.ErrArg)
	fails(t, str(typ("t", stamp(1), ctor("A", gen(0)))), api.ErrArg)
	fails(t, str(typ("t", stamp(1), ctor("A", integer(), integer()))), api.ErrArg)
	fails(t, str(typ("t", stamp(1), ctor("B"), ctor("A", integer(), integer()))), api.ErrArg)
}

// binding: an Abs, a functor and a functor's Res that bind such stamps have that error, wherever they stand.
func binding(t *testing.T, stamps []int, code api.Errno) {
	t.Helper()
	wantAbs(t, abs(stamps), api.TT{}, code)
	wantAbs(t, abs(stamps, val("x", stamp(1))), api.TT{}, code)
	for _, f := range []api.Fun{fun(stamps, str(), abs(nil)), fun(stamps, str(val("x", stamp(1))), abs(ints(2))), fun(nil, str(), abs(stamps)), fun(ints(2), str(val("x", stamp(2))), abs(stamps, val("y", stamp(2))))} {
		wantFun(t, f, api.TT{}, code)
		fails(t, str(val("x", integer()), functor("E", nil, str(), abs(nil)), api.FunMember{Name: "F", F: f}), code)
	}
}

// TestF143Stamps: stamps that are bound: their order, their numbers, once by each Abs or functor.
func TestF143Stamps(t *testing.T) {
	x := rec(texts("x"), v(1))
	wantAbs(t, abs(nil, val("x", stamp(1))), x, api.OK)
	wantAbs(t, abs(ints(1), val("x", stamp(1))), some(1, x), api.OK)
	wantAbs(t, abs(ints(3, 1, 2), val("x", stamp(1))), some(3, some(1, some(2, x))), api.OK)
	wantAbs(t, abs(ints(0, top, top-1), val("x", stamp(1))), some(0, some(top, some(top-1, x))), api.OK)
	wantFun(t, fun(ints(3, 1, 2), str(val("x", stamp(1))), abs(ints(6, 5), val("x", stamp(1)))), all(3, all(1, all(2, gfn(x, some(6, some(5, x)))))), api.OK)
	wantFun(t, fun(ints(top, 0), str(), abs(ints(0, top))), all(top, all(0, gfn(rec(nil), some(0, some(top, rec(nil)))))), api.OK)
	for _, n := range noStamps() {
		binding(t, ints(n), api.ErrArg)
		binding(t, ints(0, n), api.ErrArg)
		binding(t, ints(n, 0, 1), api.ErrArg)
		binding(t, ints(0, n, 1, n), api.ErrArg)
		binding(t, ints(n, n), api.ErrArg)
	}
	for _, n := range ints(0, 1, 7, top) {
		binding(t, ints(n, n), api.ErrTwice)
		binding(t, ints(n, 5, n), api.ErrTwice)
		binding(t, ints(5, 6, n, n), api.ErrTwice)
		binding(t, ints(n, n, n), api.ErrTwice)
	}
}

// TestF143Within: one stamp may be bound by two within each other, and beside each other.
func TestF143Within(t *testing.T) {
	x := str(val("x", stamp(1)))
	wantFun(t, fun(ints(1), x, api.Abs{Stamps: ints(1), S: x}), all(1, gfn(rec(texts("x"), v(1)), some(1, rec(texts("x"), v(1))))), api.OK)
	f := api.FunMember{Name: "F", F: fun(ints(1, 2), x, api.Abs{Stamps: ints(2, 1), S: x})}
	wantAbs(t, abs(ints(2, 1), f, val("x", stamp(1))), some(2, some(1, rec(texts("F", "x"), all(1, all(2, gfn(rec(texts("x"), v(1)), some(2, some(1, rec(texts("x"), v(1))))))), v(1)))), api.OK)
	g := f
	g.Name = "G"
	if _, code := trans.Str(str(f, g, sub("M", f, g))); code != api.OK {
		t.Errorf("beside each other: %v", code)
	}
}

// TestF143First: of several errors the first one from the outside in, in the order of the fields; ErrTwice of a structure's labels ahead of all else in it.
func TestF143First(t *testing.T) {
	i := integer()
	arg := str(val("z", meta(0)))              // ErrArg
	twice := str(val("y", i), val("y", i))     // ErrTwice
	bad := typ("t", integer(), ctor("A"))      // ErrArg
	wrong := val("v", meta(0))                 // ErrArg
	subArg := api.SubMember{Name: "M", S: arg} // and so on
	subTwice := api.SubMember{Name: "N", S: twice}
	funArg := functor("F", ints(-1), str(), abs(nil))
	funTwice := functor("G", ints(1, 1), str(), abs(nil))
	for _, c := range []struct {
		s    api.Str
		code api.Errno
	}{
		// Labels ahead of all else.
		{str(bad, val("x", i), val("x", i)), api.ErrTwice},
		{str(wrong, val("x", i), val("x", i)), api.ErrTwice},
		{str(wrong, wrong), api.ErrTwice},
		{str(bad, bad), api.ErrTwice},
		{str(subArg, subArg), api.ErrTwice},
		{str(funArg, funArg), api.ErrTwice},
		{str(subArg, val("M", i)), api.ErrTwice},
		{str(typ("t", meta(0), ctor("A", meta(0), meta(0)), ctor("A", meta(0)))), api.ErrTwice},
		// In the order of the fields.
		{str(bad, subTwice), api.ErrArg}, {str(bad, funTwice), api.ErrArg},
		{str(wrong, subTwice), api.ErrArg}, {str(wrong, funTwice), api.ErrArg},
		{str(subArg, funTwice), api.ErrArg}, {str(subTwice, funArg), api.ErrTwice},
		{str(funTwice, subArg), api.ErrArg},
		{str(typ("t", stamp(1), ctor("A", meta(0))), subTwice), api.ErrArg},
		{str(typ("t", stamp(top+1), ctor("A")), subTwice), api.ErrArg},
		// In the order in which they stand, not in that of their names.
		{str(subTwice, subArg), api.ErrTwice}, {str(subArg, subTwice), api.ErrArg},
		{str(funTwice, funArg), api.ErrTwice}, {str(funArg, funTwice), api.ErrArg},
		{str(sub("Z", subTwice), sub("A", subArg)), api.ErrTwice}, {str(sub("Z", subArg), sub("A", subTwice)), api.ErrArg},
		// Each with all that is in it ahead of the next one.
		{str(sub("A", sub("B", subTwice)), funArg), api.ErrTwice}, {str(sub("A", sub("B", subArg)), funTwice), api.ErrArg},
		// From the outside in.
		{str(sub("M", wrong, subTwice)), api.ErrArg}, {str(sub("M", wrong, subTwice, subTwice)), api.ErrTwice},
		{str(functor("F", ints(-1), twice, api.Abs{S: twice})), api.ErrArg}, {str(functor("F", ints(1, 1), arg, api.Abs{S: arg})), api.ErrTwice},
		{str(functor("F", nil, arg, abs(ints(1, 1)))), api.ErrArg}, {str(functor("F", nil, twice, abs(ints(-1)))), api.ErrTwice},
		{str(functor("F", nil, str(), api.Abs{Stamps: ints(-1), S: twice})), api.ErrArg}, {str(functor("F", nil, str(), api.Abs{Stamps: ints(1, 1), S: arg})), api.ErrTwice},
	} {
		fails(t, c.s, c.code)
		// What an Abs or a functor binds stands outside of it.
		for _, stamps := range [][]int{{-1}, {2, top + 1}} {
			wantAbs(t, api.Abs{Stamps: stamps, S: c.s}, api.TT{}, api.ErrArg)
			wantFun(t, fun(stamps, c.s, abs(ints(1, 1))), api.TT{}, api.ErrArg)
		}
		wantAbs(t, api.Abs{Stamps: ints(4, 4), S: c.s}, api.TT{}, api.ErrTwice)
		wantFun(t, fun(ints(4, 4), c.s, abs(ints(-1))), api.TT{}, api.ErrTwice)
		wantFun(t, fun(ints(4), c.s, abs(ints(-1))), api.TT{}, c.code)
		wantFun(t, fun(ints(4), c.s, abs(ints(1, 1))), api.TT{}, c.code)
	}
	// Of several stamps the outermost one, whose error is met first.
	binding(t, ints(5, 5, -1), api.ErrTwice)
	binding(t, ints(5, -1, 5), api.ErrArg)
	binding(t, ints(-1, 5, 5), api.ErrArg)
}

// TestF143Chance: structures by chance, right and wild, against the chapter's words.
func TestF143Chance(t *testing.T) {
	codes, right := map[api.Errno]int{}, 0
	for seed := range int64(12000) {
		m := newMaker(seed)
		a, f := m.abs(1+m.Intn(3)), m.functor(1+m.Intn(2))
		want, code := plainStr(a.S)
		wantStr(t, a.S, want, code)
		codes[code]++
		want, code = plainAbs(a)
		wantAbs(t, a, want, code)
		codes[code]++
		if code == api.OK && target.RightType(want) != api.OK {
			t.Fatalf("%d: %s is not right", seed, brief(tell(want)))
		}
		want, code = plainFun(f)
		wantFun(t, f, want, code)
		codes[code]++
		if !m.wild && code == api.OK {
			right++
		}
	}
	if right != 6000 || codes[api.OK] < 20000 || codes[api.ErrArg] < 3000 || codes[api.ErrTwice] < 500 {
		t.Errorf("%d right ones of 6000, %v", right, codes)
	}
}
