package match_test

import (
	"fmt"
	"testing"

	"wafer/api"
	"wafer/match"
	"wafer/types"
)

// wantTypes: Types answers that, and so do the chapter's words alone: the types in one line, or the error.
func wantTypes(t *testing.T, has, asks api.Str, stamps []int, want string) {
	t.Helper()
	answer := func(l []api.Type, err api.Errno) string {
		if err != api.OK && len(l) > 0 {
			return "types beside an error"
		}
		if err != api.OK {
			return code(err)
		}
		return texts(l)
	}
	if got := answer(match.Types(has, asks, stamps)); got != want {
		t.Errorf("Types(%s; %s; %v): %s, want %s", show(has), show(asks), stamps, got, want)
	}
	if got := answer(plainTypes(has, asks, stamps)); got != want {
		t.Errorf("Types(%s; %s; %v): %s by the chapter's words, want %s", show(has), show(asks), stamps, got, want)
	}
}

func TestTypes(t *testing.T) {
	has := str(typ("t", integer()), typ("u", boolean()), typ("v", fn(unit(), stamp(3))),
		sub("M", typ("t", unit()), typ("u", stamp(7)), sub("N", typ("t", pair(integer(), integer())))),
		sub("N", typ("t", stamp(8)), typ("d", stamp(9), ctor("A"))))
	for _, one := range []struct {
		asks   api.Str
		stamps []int
		want   string
	}{
		{str(typ("t", stamp(5))), ints(5), "int"},
		{str(typ("t", stamp(5))), nil, ""},
		{str(), nil, ""},
		{str(typ("t", stamp(5)), typ("u", stamp(6))), ints(6, 5), "bool, int"},
		{str(typ("t", stamp(5)), typ("u", stamp(6))), ints(5, 6, 5, 5), "int, bool, int, int"},
		// The first place at which the stamp stands, in the order in which the types stand, whatever their names.
		{str(typ("t", stamp(5)), typ("u", stamp(5))), ints(5), "int"},
		{str(typ("u", stamp(5)), typ("t", stamp(5))), ints(5), "bool"},
		// Just that stamp: not where it stands within a type.
		{str(typ("t", fn(stamp(5), stamp(5))), typ("u", stamp(5))), ints(5), "bool"},
		{str(typ("t", fn(stamp(5), stamp(5)))), ints(5), "ErrMatch"},
		{str(val("x", stamp(5))), ints(5), "ErrMatch"},
		{str(typ("d", stamp(6), ctor("A", stamp(5))), typ("u", stamp(6))), ints(5), "ErrMatch"},
		// Other kinds with its number are no stamps.
		{str(typ("t", node(api.TMeta, 5)), typ("u", gen(5)), typ("v", node(api.TInt, 5))), ints(5), "ErrMatch"},
		// A shorter path ahead of a longer one, among those of one length the first Sub.
		{str(sub("M", typ("t", stamp(5))), typ("u", stamp(5))), ints(5), "bool"},
		{str(sub("M", sub("N", typ("t", stamp(5)))), sub("N", typ("t", stamp(5)))), ints(5), "#8"},
		{str(sub("M", sub("N", typ("t", stamp(5)))), sub("N", typ("t", stamp(6)))), ints(5, 6), "int * int, #8"},
		{str(sub("N", typ("t", stamp(5))), sub("M", typ("t", stamp(5)))), ints(5), "#8"},
		{str(sub("M", typ("t", stamp(5))), sub("N", typ("t", stamp(5)))), ints(5), "unit"},
		{str(sub("M", sub("N", typ("t", stamp(5))), typ("u", stamp(5)))), ints(5), "#7"},
		// A datatype, and the same one asked for as a type.
		{str(sub("N", typ("d", stamp(5), ctor("A")))), ints(5), "#9"},
		{str(sub("N", typ("d", stamp(5), ctor("B", stamp(5)), ctor("C")))), ints(5), "#9"},
		// There is no type at the path, or no structure.
		{str(typ("w", stamp(5))), ints(5), "ErrMatch"},
		{str(sub("M", typ("d", stamp(5)))), ints(5), "ErrMatch"},
		{str(sub("O", typ("t", stamp(5)))), ints(5), "ErrMatch"},
		{str(sub("M", sub("M", typ("t", stamp(5))))), ints(5), "ErrMatch"},
		// The first path counts, though the structure has one at the second.
		{str(typ("w", stamp(5)), typ("t", stamp(5))), ints(5), "ErrMatch"},
		{str(typ("w", stamp(5)), sub("M", typ("t", stamp(5)))), ints(5), "ErrMatch"},
		{str(sub("O", typ("t", stamp(5))), sub("M", typ("t", stamp(5)))), ints(5), "ErrMatch"},
		// What is not asked to be found is not asked for at all.
		{str(typ("w", stamp(6)), typ("t", stamp(5)), sub("O", typ("t", stamp(6)))), ints(5), "int"},
		{str(typ("w", stamp(6)), typ("t", stamp(5))), ints(5, 6), "ErrMatch"},
		{str(typ("t", stamp(5))), ints(5, 6), "ErrMatch"},
		{str(typ("t", stamp(5))), ints(-5), "ErrMatch"},
		// Functors and signatures are no part of a path.
		{str(functor("M", nil, str(typ("t", stamp(5))), abs(nil, typ("t", stamp(5)))), sig("M", nil, typ("t", stamp(5)))), ints(5), "ErrMatch"},
		{str(functor("M", nil, str(), abs(nil)), typ("t", stamp(5))), ints(5), "int"},
	} {
		wantTypes(t, has, one.asks, one.stamps, one.want)
	}
}

// TestTypesTwice: of several of one name the last one counts.
func TestTypesTwice(t *testing.T) {
	asks := str(typ("t", stamp(5)))
	wantTypes(t, str(typ("t", integer()), typ("t", boolean())), asks, ints(5), "bool")
	wantTypes(t, str(typ("t", integer()), typ("u", unit()), typ("t", boolean()), typ("u", integer())), asks, ints(5), "bool")
	within := str(sub("M", asks.Types[0]))
	wantTypes(t, str(sub("M", typ("t", integer())), sub("M", typ("t", boolean()))), within, ints(5), "bool")
	wantTypes(t, str(sub("M", typ("t", integer()), typ("t", unit())), sub("N", typ("t", boolean()))), within, ints(5), "unit")
	// The last one has it not: then it is not there.
	wantTypes(t, str(sub("M", typ("t", integer())), sub("M", typ("u", boolean()))), within, ints(5), "ErrMatch")
	deep := str(sub("M", sub("M", typ("t", stamp(5)))))
	wantTypes(t, str(sub("M", sub("M", typ("t", integer()))), sub("M", sub("M", typ("t", boolean())), sub("M", typ("t", unit())))), deep, ints(5), "unit")
	wantTypes(t, str(sub("M", sub("M", typ("t", integer()))), sub("M")), deep, ints(5), "ErrMatch")
	// And so it is in what is asked.
	has := str(typ("t", integer()), typ("u", boolean()), sub("M", typ("t", unit())))
	wantTypes(t, has, str(typ("t", stamp(5)), typ("t", stamp(6))), ints(6), "int")
	wantTypes(t, has, str(typ("t", stamp(5)), typ("t", stamp(6))), ints(5), "ErrMatch")
	wantTypes(t, has, str(typ("t", stamp(5)), typ("u", stamp(5)), typ("t", stamp(5))), ints(5), "bool")
	wantTypes(t, has, str(sub("M", typ("t", stamp(5))), sub("M", typ("t", stamp(6)))), ints(6), "unit")
	wantTypes(t, has, str(sub("M", typ("t", stamp(5))), sub("M", typ("t", stamp(6)))), ints(5), "ErrMatch")
}

// TestTypesNumbers: stamps at the ends of what may come.
func TestTypesNumbers(t *testing.T) {
	var has, asks api.Str
	var want []api.Type
	for i, n := range edges() {
		name := fmt.Sprint("t", i)
		want = append(want, fn(integer(), stamp(i)))
		has.Types = append(has.Types, typ(name, want[i]))
		asks.Types = append(asks.Types, typ(name, stamp(n)))
	}
	l, err := match.Types(has, asks, edges())
	if err != api.OK || tell(l) != tell(want) {
		t.Errorf("%s, %s", texts(l), code(err))
	}
	// What a structure has may be too great, or leave something open: that is Put's to say.
	great := wide(api.MaxType, stamp(1))
	l, err = match.Types(str(typ("t", great), typ("u", gen(3))), str(typ("t", stamp(5)), typ("u", stamp(6))), ints(5, 6))
	if err != api.OK || !types.Same(l[0], great) || types.Text(l[1]) != "'d" {
		t.Errorf("%s: %s", brief(texts(l)), code(err))
	}
}
