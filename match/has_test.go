package match_test

import (
	"testing"

	"wafer/api"
	"wafer/match"
)

// wantHas: so says Has, and so say the chapter's words alone.
func wantHas(t *testing.T, has, asks api.Str, want bool) {
	t.Helper()
	is := api.ErrMatch
	if want {
		is = api.OK
	}
	wantCode(t, "Has("+show(has)+"; "+show(asks)+")", match.Has(has, asks), is)
	if got := plainHas(has, asks); got != want {
		t.Errorf("Has(%s; %s) by the chapter's words: %v", show(has), show(asks), got)
	}
}

func TestHasTypes(t *testing.T) {
	data := func(l ...api.Ctor) api.Str { return str(typ("t", stamp(3), l...)) }
	a, b := ctor("A"), ctor("B", integer())
	for _, one := range []struct {
		has, asks api.Str
		want      bool
	}{
		{str(), str(), true},
		{str(typ("t", integer())), str(), true},
		{str(), str(typ("t", integer())), false},
		{str(typ("t", integer())), str(typ("t", integer())), true},
		{str(typ("t", integer())), str(typ("u", integer())), false},
		{str(typ("t", integer())), str(typ("t", boolean())), false},
		{str(typ("t", stamp(3))), str(typ("t", stamp(4))), false},
		{str(typ("t", fn(stamp(3), unit()))), str(typ("t", fn(stamp(3), unit()))), true},
		{str(typ("t", fn(stamp(3), unit()))), str(typ("t", pair(stamp(3), unit()))), false},
		{str(typ("t", fn(stamp(3), unit()))), str(typ("t", fn(stamp(3), stamp(3)))), false},
		{str(typ("a", unit()), typ("t", integer()), typ("z", unit())), str(typ("t", integer())), true},
		{str(typ("t", integer()), typ("u", boolean())), str(typ("u", boolean()), typ("t", integer())), true},
		{str(typ("t", integer()), typ("u", boolean())), str(typ("u", boolean()), typ("t", boolean())), false},
		// A value of the name is no type.
		{str(val("t", integer())), str(typ("t", integer())), false},
		// Constructors: their names, their order, their Args.
		{data(a, b), data(a, b), true},
		{data(a, b), data(b, a), false},
		{data(a, b), data(a), false},
		{data(a), data(a, b), false},
		{data(a), data(b), false},
		{data(a), data(), true},
		{data(a, b), data(), true},
		{data(), data(a), false},
		{data(ctor("A")), data(ctor("AA")), false},
		{data(ctor("A")), data(ctor("A", unit())), false},
		{data(ctor("A", unit())), data(ctor("A")), false},
		{data(ctor("A", integer())), data(ctor("A", boolean())), false},
		{data(ctor("A", fn(stamp(3), integer()))), data(ctor("A", fn(stamp(3), integer()))), true},
		{data(ctor("A", fn(stamp(3), integer()))), data(ctor("A", fn(stamp(3), stamp(3)))), false},
		{data(a, b, a), data(a, b, a), true},
		// With Args of any number.
		{data(ctor("A", unit(), integer())), data(ctor("A", unit(), integer())), true},
		{data(ctor("A", unit(), integer())), data(ctor("A", unit(), boolean())), false},
		{data(ctor("A", unit(), integer())), data(ctor("A", unit())), false},
		// The type is asked for ahead of them.
		{data(a), str(typ("t", stamp(4), a)), false},
		{str(typ("t", integer(), a)), str(typ("t", integer(), a)), true},
	} {
		wantHas(t, one.has, one.asks, one.want)
	}
}

func TestHasValues(t *testing.T) {
	meta := node(api.TMeta, 1)
	for _, one := range []struct {
		has, asks api.ValMember
		want      bool
	}{
		{val("x", integer()), val("x", integer()), true},
		{val("x", integer()), val("x", boolean()), false},
		{val("x", integer()), val("y", integer()), false},
		{val("x", stamp(3)), val("x", stamp(3)), true},
		{val("x", stamp(3)), val("x", stamp(4)), false},
		{val("x", meta), val("x", meta), true},
		{val("x", meta), val("x", integer()), false},
		{poly("f", 1, fn(gen(0), gen(0))), val("f", fn(integer(), integer())), true},
		{poly("f", 1, fn(gen(0), gen(0))), val("f", fn(integer(), boolean())), false},
		{poly("f", 1, fn(gen(0), gen(0))), val("f", fn(meta, meta)), true},
		{val("f", fn(integer(), integer())), poly("f", 1, fn(gen(0), gen(0))), false},
		{poly("f", 1, fn(gen(0), gen(0))), poly("f", 1, fn(gen(0), gen(0))), true},
		{poly("f", 2, fn(gen(0), gen(1))), poly("f", 1, fn(gen(0), gen(0))), true},
		{poly("f", 1, fn(gen(0), gen(0))), poly("f", 2, fn(gen(0), gen(1))), false},
		{poly("f", 2, fn(gen(0), gen(1))), poly("f", 1, fn(pair(gen(0), stamp(3)), gen(0))), true},
		{poly("f", 2, fn(gen(0), fn(gen(1), gen(0)))), poly("f", 3, fn(pair(gen(0), gen(1)), fn(gen(2), pair(gen(0), gen(1))))), true},
		{poly("f", 2, fn(gen(0), fn(gen(1), gen(0)))), poly("f", 3, fn(pair(gen(0), gen(1)), fn(gen(2), pair(gen(1), gen(0))))), false},
		{poly("x", 1, gen(0)), val("x", wide(2000, stamp(1))), true},
		// Schemes that are not right are at least as general as none.
		{poly("x", 1, integer()), poly("x", 1, integer()), false},
		{poly("x", 1, integer()), val("x", integer()), false},
		{poly("f", 2, fn(gen(1), gen(0))), val("f", fn(unit(), unit())), false},
		{poly("f", 1, gen(0)), val("f", node(99, 0)), false},
	} {
		wantHas(t, str(one.has), str(one.asks), one.want)
		wantHas(t, str(sub("M", one.has)), str(sub("M", one.asks)), one.want)
		wantHas(t, str(val("a", unit()), one.has, val("z", unit())), str(val("z", unit()), one.asks), one.want)
	}
	wantHas(t, str(typ("x", integer())), str(val("x", integer())), false)
	wantHas(t, str(val("x", integer())), str(), true)
	wantHas(t, str(), str(val("x", integer())), false)
}

func TestHasStructures(t *testing.T) {
	x, y, u := val("x", integer()), val("y", unit()), typ("u", stamp(1))
	f, g := functor("F", nil, str(), abs(nil)), sig("S", nil)
	for _, one := range []struct {
		has, asks api.Str
		want      bool
	}{
		{str(sub("M")), str(sub("M")), true},
		{str(), str(sub("M")), false},
		{str(sub("M")), str(), true},
		{str(sub("N")), str(sub("M")), false},
		{str(sub("M", x, y)), str(sub("M", y)), true},
		{str(sub("M", y)), str(sub("M", x, y)), false},
		{str(sub("M", u)), str(sub("M", u)), true},
		{str(sub("M"), u), str(sub("M", u)), false},
		{str(sub("M", u)), str(u), false},
		{str(sub("M", sub("N", x)), x), str(x, sub("M", sub("N", x))), true},
		{str(sub("M", sub("N", x)), x), str(x, sub("M", sub("N", y))), false},
		{str(sub("M", sub("N", x)), x), str(x, sub("N", x)), false},
		{str(sub("A"), sub("M", x), sub("N", y)), str(sub("N", y), sub("M", x)), true},
		{str(sub("A"), sub("M", x), sub("N", y)), str(sub("N", x), sub("M", x)), false},
		// Functors and signatures are never there.
		{str(f), str(f), false},
		{str(g), str(g), false},
		{str(f, g, x), str(x), true},
		{str(x, f), str(x, f), false},
		{str(x, g), str(x, g), false},
		{str(sub("M", f)), str(sub("M", f)), false},
		{str(sub("M", g)), str(sub("M", g)), false},
		{str(sub("M", f, g)), str(sub("M")), true},
		{str(functor("M", nil, str(), abs(nil))), str(sub("M")), false},
		{str(sig("M", nil)), str(sub("M")), false},
	} {
		wantHas(t, one.has, one.asks, one.want)
	}
}

// TestHasTwice: of several of one name the last one counts, in what a structure has and in what is asked.
func TestHasTwice(t *testing.T) {
	types := []any{typ("t", integer()), typ("t", boolean())}
	vals := []any{val("x", integer()), val("x", boolean())}
	subs := []any{sub("M", vals[0]), sub("M", vals[1])}
	for _, l := range [][]any{types, vals, subs, {sub("N", types...), sub("N", vals...)}, {sub("N", types...), sub("N", subs...)}} {
		wantHas(t, str(l...), str(l[1]), true)
		wantHas(t, str(l...), str(l[0]), false)
		wantHas(t, str(l[1]), str(l...), true)
		wantHas(t, str(l[0]), str(l...), false)
		wantHas(t, str(l...), str(l...), true)
		wantHas(t, str(l[1], l[0]), str(l...), false)
	}
	// One that does not count may ask for what is never there.
	asks := str(sub("M", functor("F", nil, str(), abs(nil))), sub("M", val("x", integer())))
	wantHas(t, str(sub("M", val("x", integer()))), asks, true)
	data, later := typ("t", stamp(1), ctor("A")), typ("t", stamp(1))
	wantHas(t, str(later), str(data, later), true)
	wantHas(t, str(data, later), str(data), false)
	wantHas(t, str(later, data), str(data), true)
}
