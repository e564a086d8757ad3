package match_test

import (
	"testing"

	"wafer/api"
	"wafer/match"
	"wafer/types"
)

// wantMatch: Match answers that, and so do the chapter's words alone: the types in one line, or the error.
func wantMatch(t *testing.T, has api.Str, a api.Abs, want string) {
	t.Helper()
	answer := func(l []api.Type, err api.Errno) string {
		if err == api.OK {
			return texts(l)
		}
		if len(l) > 0 {
			return "types beside an error"
		}
		return code(err)
	}
	if got := answer(match.Match(has, a)); got != want {
		t.Errorf("Match(%s; %s): %s, want %s", brief(show(has)), brief(showAbs(a)), brief(got), brief(want))
	}
	if got := answer(plainMatch(has, a)); got != want {
		t.Errorf("Match(%s; %s): %s by the chapter's words, want %s", brief(show(has)), brief(showAbs(a)), brief(got), brief(want))
	}
}

// TestExamples: the chapter's.
func TestExamples(t *testing.T) {
	five := abs(ints(5), typ("t", stamp(5)), val("x", stamp(5)))
	wantMatch(t, str(typ("t", integer()), val("x", integer())), five, "int")
	wantMatch(t, str(typ("t", integer()), val("x", boolean())), five, "ErrMatch")
	wantMatch(t, str(val("x", integer())), five, "ErrMatch")
	general, special := str(poly("f", 1, fn(gen(0), gen(0)))), str(val("f", fn(integer(), integer())))
	wantHas(t, general, special, true)
	wantHas(t, special, general, false)
	data := func(l ...api.Ctor) api.Str { return str(typ("t", stamp(3), l...)) }
	wantHas(t, data(ctor("A"), ctor("B")), data(ctor("B"), ctor("A")), false)
	wantHas(t, data(ctor("A")), data(), true)
	wantPut(t, str(val("x", fn(stamp(5), stamp(6)))), ints(5), list(stamp(6)), "val x #6 -> #6")
}

func TestMatch(t *testing.T) {
	a, b := ctor("A"), ctor("B", pair(integer(), stamp(5)))
	own := ctor("B", pair(integer(), stamp(3)))
	has := str(typ("t", fn(unit(), unit())), typ("d", stamp(3), a, own), val("x", fn(unit(), unit())), poly("id", 1, fn(gen(0), gen(0))),
		sub("M", typ("t", stamp(8)), val("x", stamp(8)), val("y", integer())))
	for _, one := range []struct {
		asks api.Abs
		want string
	}{
		{abs(nil), ""},
		{abs(nil, typ("t", fn(unit(), unit()))), ""},
		{abs(nil, typ("t", integer())), "ErrMatch"},
		{abs(ints(5), typ("t", stamp(5))), "unit -> unit"},
		{abs(ints(5), typ("t", stamp(5)), val("x", stamp(5)), val("id", fn(stamp(5), stamp(5)))), "unit -> unit"},
		{abs(ints(5), typ("t", stamp(5)), val("x", pair(stamp(5), stamp(5)))), "ErrMatch"},
		{abs(ints(5), val("x", stamp(5))), "ErrMatch"},
		{abs(ints(5, 6), sub("M", typ("t", stamp(5)), val("x", stamp(5))), typ("t", stamp(6)), val("x", stamp(6))), "#8, unit -> unit"},
		{abs(ints(6, 5), sub("M", typ("t", stamp(5)), val("x", stamp(5))), typ("t", stamp(6)), val("x", stamp(6))), "unit -> unit, #8"},
		// One stamp at two places that have other types.
		{abs(ints(5), typ("t", stamp(5)), sub("M", typ("t", stamp(5)))), "ErrMatch"},
		// A datatype that is asked for with its constructors: it is found like any other type.
		{abs(ints(5), typ("d", stamp(5), a, b)), "#3"},
		{abs(ints(5), typ("d", stamp(5))), "#3"},
		{abs(ints(5), typ("d", stamp(5), b, a)), "ErrMatch"},
		{abs(ints(5), typ("t", stamp(5), a, b)), "ErrMatch"},
		// Stamps that are not bound stay, so they must be the same.
		{abs(nil, typ("t", stamp(5))), "ErrMatch"},
		{abs(nil, sub("M", typ("t", stamp(8)))), ""},
		{abs(ints(8), sub("M", typ("t", stamp(8)), val("y", integer()))), "#8"},
		{abs(ints(3), sub("M", typ("t", stamp(3)), val("x", stamp(3)))), "#8"},
		// A stamp that is bound and stands nowhere is not found.
		{abs(ints(5), val("x", fn(unit(), unit()))), "ErrMatch"},
		{abs(ints(5, 5), typ("t", stamp(5))), "unit -> unit, unit -> unit"},
		// Functors and signatures are never there.
		{abs(ints(5), typ("t", stamp(5)), sig("S", nil)), "ErrMatch"},
		{abs(ints(5), typ("t", stamp(5)), functor("F", nil, str(), abs(nil))), "ErrMatch"},
	} {
		wantMatch(t, has, one.asks, one.want)
	}
}

// TestMatchErrors: Types' error ahead of Put's, Put's ahead of Has'.
func TestMatchErrors(t *testing.T) {
	great := wide(500, stamp(9)) // 999 nodes
	has := str(typ("t", great), typ("o", gen(0)), typ("u", integer()), val("x", great), val("y", pair(great, great)))
	wantMatch(t, has, abs(ints(5), typ("t", stamp(5)), val("x", stamp(5))), types.Text(great))
	// A type would be too great, though the structure has it, or has it not.
	wantMatch(t, has, abs(ints(5), typ("t", stamp(5)), val("y", pair(stamp(5), stamp(5)))), "ErrBig")
	wantMatch(t, has, abs(ints(5), typ("t", stamp(5)), val("z", pair(stamp(5), stamp(5)))), "ErrBig")
	wantMatch(t, has, abs(ints(5, 6), typ("t", stamp(5)), val("y", pair(stamp(5), stamp(5)))), "ErrMatch")
	wantMatch(t, has, abs(ints(5, 6), typ("t", stamp(5)), typ("w", stamp(6)), val("y", pair(stamp(5), stamp(5)))), "ErrMatch")
	// A type leaves something open.
	wantMatch(t, has, abs(ints(5), typ("o", stamp(5)), val("z", integer())), "ErrArg")
	wantMatch(t, has, abs(ints(5, 6), typ("o", stamp(5)), typ("t", stamp(6)), val("y", pair(stamp(6), stamp(6)))), "ErrArg")
	wantMatch(t, has, abs(ints(5, 6), typ("o", stamp(5)), typ("w", stamp(6))), "ErrMatch")
	// The structure would be too great: 1 + 4 * 1000 nodes, and one of the four less.
	l := []any{typ("t", stamp(5)), val("x", stamp(5)), val("x", stamp(5))}
	wantMatch(t, has, abs(ints(5), append(l, val("x", stamp(5)))...), "ErrBig")
	wantMatch(t, has, abs(ints(5), append(l, val("w", stamp(5)))...), "ErrBig")
	wantMatch(t, has, abs(ints(5), l...), types.Text(great))
	wantMatch(t, has, abs(ints(5), append(l, sig("S", nil))...), "ErrMatch")
	// The Abs' own stamps are put in: they are not counted.
	part := wide(499, unit()) // 997 nodes, so that there are 3999
	has.Vals = append(has.Vals, val("w", part))
	wantMatch(t, has, abs(ints(5, 5, 5), append(l, val("w", part))...), types.Text(great)+", "+types.Text(great)+", "+types.Text(great))
	// What the structure itself has is no one's to measure.
	for range 10 {
		has.Subs = append(has.Subs, sub("M", has.Vals[0], has.Vals[1], has.Vals[2]))
	}
	wantMatch(t, has, abs(ints(5), typ("u", stamp(5))), "int")
}
