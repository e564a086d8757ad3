package sigs_test

import (
	"wafer/api"
	"wafer/env"
)

// world: an environment with types, datatypes, structures and signatures, of which some hide others; its stamps are 0 to 4.
func world() env.Env {
	colour := []api.Ctor{ctor("Red"), ctor("Mix", pair(stamp(2), stamp(2)))}
	n := str(typ("t", stamp(3)), typ("b", boolean()))
	n.Sigs = []api.SigMember{{Name: "T", A: abs(ints(7), val("x", pair(stamp(7), stamp(3))), typ("t", stamp(7)))}}
	m := str(typ("t", stamp(1)), typ("colour", stamp(2), colour...), typ("two", pair(integer(), integer())), val("x", stamp(1)))
	m.Subs = []api.SubMember{{Name: "N", S: n}}
	m.Sigs = []api.SigMember{{Name: "TWO", A: abs(ints(9, 8), typ("a", stamp(8)), typ("b", stamp(9)), val("f", fn(stamp(8), pair(stamp(9), stamp(1)))))}}
	return env.Env{
		Vals: []env.Val{{Name: "x", S: api.Scheme{T: stamp(4)}}},
		Typs: []env.Typ{{Name: "t", T: boolean()}, {Name: "t", T: stamp(0)}, {Name: "f", T: fn(stamp(0), integer())}, {Name: "colour", T: stamp(2), Ctors: colour}},
		Subs: []env.Sub{{Name: "M"}, {Name: "M", S: m}, {Name: "E"}},
		Sigs: []env.Sig{
			{Name: "T", A: abs(nil, val("wrong", integer()))},
			{Name: "T", A: abs(ints(3), typ("t", stamp(3)))},
			{Name: "DATA", A: abs(ints(1), typ("d", stamp(1), ctor("A", stamp(1)), ctor("B")), typ("e", stamp(1)))},
			{Name: "SEEN", A: abs(nil, typ("t", stamp(0)), val("c", stamp(2)))},
			// What stands here is in no order, and the last one of a name counts.
			{Name: "LOOSE", A: abs(ints(2, 1), val("y", stamp(1)), val("x", stamp(2)), typ("t", integer()), typ("s", stamp(1)), typ("t", stamp(2)), sub("B", typ("z", stamp(1)), typ("a", stamp(2))), sub("A"))},
		},
	}
}
