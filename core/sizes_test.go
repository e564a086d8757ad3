package core_test

import (
	"strconv"
	"strings"
	"testing"

	"wafer/api"
	"wafer/core"
	"wafer/env"
	"wafer/kernel"
	"wafer/target"
	"wafer/trans"
)

// bigPlace: types, values and constructors near the greatest size: bN has N nodes, vN is a value of bN, gN one of a pair of what is open and N - 2 nodes, CN a constructor of bN.
func bigPlace() env.Env {
	var e env.Env
	var all []api.Ctor
	for _, nodes := range []int{249, 499, 501, 995, 997, 999} {
		t, n := sized(nodes), strconv.Itoa(nodes)
		open := api.Scheme{Gens: 1, T: pair(gen(0), sized(nodes-2))}
		e.Typs = append(e.Typs, env.Typ{Name: "b" + n, T: t})
		e.Vals = append(e.Vals, env.Val{Name: "v" + n, S: api.Scheme{T: t}, X: v("v" + n)}, env.Val{Name: "g" + n, S: open, X: v("g" + n)})
		all = append(all, ctor("C"+n, t))
	}
	for n, c := range all {
		e.Cons = append(e.Cons, env.Con{Name: c.Name, T: stamp(3), Args: c.Args, N: n, All: all, X: v(c.Name + "()"), Out: v("out big")})
	}
	e.Typs = append(e.Typs, env.Typ{Name: "big", T: stamp(3), Ctors: all})
	return e
}

// TestF161Size: types at MaxType nodes and above, also of parts that do not stand in the whole's type. (A right type has an odd number of nodes: 999 or 1001.)
func TestF161Size(t *testing.T) {
	e := bigPlace()
	for _, c := range []struct{ d, want string }{
		// Of each kind of expression.
		{"val x = v999", "OK"},
		{"val x = (v499, v499)", "OK"},
		{"val x = (v499, v501)", "ErrType"},
		{"val x = (1, v997)", "OK"},
		{"val x = (1, v999)", "ErrType"},
		{"val x = fn y => v997", "OK"},
		{"val x = fn y => v999", "ErrType"},
		{"val x = fn y => (y : b997)", "ErrType"},
		{"val x = fn y => (y : b499)", "OK"},
		{"val x = fn y => (y : b501)", "ErrType"},
		{"val x = C997", "OK"},
		{"val x = C999", "ErrType"},
		{"val x = C997 v997", "OK"},
		{"val x = C999 v999", "ErrType"},
		{"val x = fn C997 y => 1", "OK"},
		{"val x = fn C999 y => 1", "OK"},
		{"val x = fn C999 y => y", "ErrType"},
		{"val x = fn C997 y => y", "OK"},
		{"val x = g999", "OK"},
		{"val x : big = C499 v499", "OK"},
		{"val x : b999 = v999", "OK"},
		{"val x : b999 * int = (v999, 1)", "ErrType"},
		{"val x : b997 * int = (v997, 1)", "OK"},
		{"val x : b499 -> b499 = fn y => y", "OK"},
		{"val x : b499 -> b501 = fn y => v501", "ErrType"},
		{"fun f y : b997 = v997", "OK"},
		{"fun f y : b999 = v999", "ErrType"},
		{"fun f y = v997", "OK"},
		{"fun f y = v999", "ErrType"},
		{"fun f y z = v995", "OK"},
		{"fun f y z = v997", "ErrType"},
		{"fun f y = (y : b499)", "OK"},
		{"fun f y = (y : b501)", "ErrType"},
		// Of parts that are not in the whole's type.
		{"val x = let val y = (v499, v499) in 1 end", "OK"},
		{"val x = let val y = (v499, v501) in 1 end", "ErrType"},
		{"val x = let fun f y = v997 in 1 end", "OK"},
		{"val x = let fun f y = v999 in 1 end", "ErrType"},
		{"val x = (fn y => 1) v997", "OK"},
		{"val x = (fn y => 1) v999", "ErrType"},
		{"val x = case v999 of y => 1 end", "OK"},
		{"val x = case v999 of (y, z) => 1 end", "OK"},
		{"val x = case (v499, v499) of (y, z) => 1 end", "OK"},
		{"val x = case (v499, v501) of (y, z) => 1 end", "ErrType"},
		{"val x = case (v499, v501) of _ => 1 end", "ErrType"},
		{"val x = case 1 of 1 => 2 | y => (fn _ => 1) (v501, v499) end", "ErrType"},
		{"val x = case 1 of 1 => 2 | y => (fn _ => 1) (v499, v249) end", "OK"},
		{"val x = if (fn _ => true) (v499, v501) then 1 else 2", "ErrType"},
		{"val x = ((fn _ => 1) (v499, v501) : int)", "ErrType"},
		{"val x = (fn _ => 1) (v499, v501) + 2", "ErrType"},
		{"val x = fn z => (fn _ => 1) (fn y => (v499, v501))", "ErrType"},
		{"val x = let val y = 1 in (fn _ => y) (v999 : b999) end", "ErrType"},
		{"val x = let val y = (fn z => 1 : b997 -> int) in 1 end", "OK"},
		{"val x = let val y = (fn z => 1 : b999 -> int) in 1 end", "ErrType"},
		{"val x = let val y : b499 * b501 = (v499, v501) in 1 end", "ErrType"},
		// What is not known yet may come to be too great; an instance, too.
		{"val x = (fn y => let val z = (y, y) in 1 end) v499", "OK"},
		{"val x = (fn y => let val z = (y, y) in 1 end) v501", "ErrType"},
		{"val x = let fun f y = let val z = (y, y) in 1 end in f v501 end", "OK"},
		{"val x = let fun f y = let val z = (y, y) in 1 end in f v997 end", "OK"},
		{"val x = let fun f y = let val z = (y, y) in 1 end in f v999 end", "ErrType"},
		{"val x = let fun f y = (y, y) in case f v249 of _ => 1 end end", "OK"},
		{"val x = let fun f y = (y, y) in case f v499 of _ => 1 end end", "ErrType"},
		{"val x = let val y = g999 in case y of (z, _) => z + 1 end end", "OK"},
		{"val x = case g997 of ((z, w), _) => z + w end", "OK"},
		{"val x = case g999 of ((z, w), _) => z + w end", "ErrType"},
		{"val x = case g997 of ((y, (z, w)), _) => z + w end", "ErrType"},
		{"val x = (fn f => 1) (fn y => fn z => (y : b249))", "OK"},
		{"val x = (fn f => 1) (fn y => fn z => (y : b499))", "ErrType"},
	} {
		d := dec(c.d)
		got := answer(e, d)
		if !strings.HasPrefix(got, "Err") {
			got = "OK"
		}
		if got != c.want {
			t.Errorf("%s: %s, want %s", c.d, got, c.want)
		}
		if is, ok := plainDec(e, d); ok && strings.HasPrefix(is, "Err") != (c.want != "OK") {
			t.Errorf("%s: %s by the chapter's words, want %s", c.d, brief(is), c.want)
		}
		s, x, err := core.Dec(e, d)
		if err != api.OK {
			continue
		}
		vars, l := around(e)
		tt, _ := trans.Scheme(s)
		if is, err := kernel.Check(x, vars, l); err != api.OK || !target.SameType(is, tt) {
			t.Errorf("%s: the kernel tells %v", c.d, err)
		}
	}
}

// TestF161Doubling: types that grow with each declaration.
func TestF161Doubling(t *testing.T) {
	// Each is a pair of the one before twice: the eighth has 511 nodes, the ninth 1023.
	doubled := func(count int) api.Dec {
		x := letIn(num(1))
		x.Decs = append(x.Decs, val("x0", num(1)))
		for i := range count {
			name := func(n int) string { return "x" + string(rune('0'+n)) }
			x.Decs = append(x.Decs, val(name(i+1), both(id(name(i)), id(name(i)))))
		}
		return val("x", x)
	}
	want(t, env.Env{}, doubled(8), "int")
	want(t, env.Env{}, doubled(9), "ErrType")
	// With what is open; then the instances are as great.
	open := func(count int) string {
		return "val x = fn y => let val x0 = fn z => z " + strings.Repeat("val x0 = (x0, x0) ", count) + "in 1 end"
	}
	want(t, env.Env{}, dec(open(7)), "'a -> int")
	want(t, env.Env{}, dec(open(8)), "ErrType")
	// Very many would be very great, if their types were written out.
	if got := answer(env.Env{}, dec("val x = fn y => let val x0 = y "+strings.Repeat("val x0 = (x0, x0) ", 100)+"in 1 end")); got != "ErrType" {
		t.Error(brief(got))
	}
}
