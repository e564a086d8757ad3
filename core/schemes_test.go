package core_test

import (
	"testing"

	"wafer/api"
	"wafer/core"
	"wafer/env"
	"wafer/types"
)

// TestF161Kinds: the type of each kind of expression.
func TestF161Kinds(t *testing.T) {
	wants(t, place(), `
	val x = 0 =>> int
	val x = 9223372036854775807 =>> int
	val x = true =>> bool
	val x = false =>> bool
	val x = () =>> unit
	val x = one =>> int
	val x = nums =>> #1
	val x = M.N.one =>> bool
	val x = M.N.y =>> #5
	val x = M.N.fst =>> 'a * 'b -> 'a
	val x = swap =>> 'a * 'b -> 'b * 'a
	val x = twice =>> ('a -> 'a) -> 'a -> 'a
	val x = h =>> #8
	val x = Nil =>> #1
	val x = Cons =>> int * #1 -> #1
	val x = M.Red =>> #4
	val x = M.N.Box =>> #4 * #1 -> #5
	val x = M.N.Cons =>> unit -> #5
	val x = Roll =>> (#3 -> int) -> #3
	val x = fn y => y =>> 'a -> 'a
	val x = fn _ => 1 =>> 'a -> int
	val x = fn () => 1 =>> unit -> int
	val x = fn 3 => true =>> int -> bool
	val x = fn true => 1 =>> bool -> int
	val x = fn false => 1 =>> bool -> int
	val x = fn (y, z) => z =>> 'a * 'b -> 'b
	val x = fn (y, 1) => y =>> 'a * int -> 'a
	val x = fn (Cons (y, _), z) => (y, z) =>> #1 * 'a -> int * 'a
	val x = fn Cons y => y =>> #1 -> int * #1
	val x = fn M.N.Cons y => y =>> #5 -> unit
	val x = fn Act f => f =>> #3 -> int -> int
	val x = fn M.Red => Nil =>> #4 -> #1
	val x = inc 1 =>> int
	val x = inc =>> int -> int
	val x = Cons (1, Nil) =>> #1
	val x = twice inc =>> int -> int
	val x = M.on swap (1, true) =>> bool * int
	val x = (1, true) =>> int * bool
	val x = (fn y => y, fn y => y) =>> ('a -> 'a) * ('b -> 'b)
	val x = ((1, 2), 3) =>> int * int * int
	val x = (1, (2, 3)) =>> int * (int * int)
	val x = let in 1 end =>> int
	val x = let val y = 1 val z = (y, y) in (z, y) end =>> int * int * int
	val x = let fun f y = y + 1 in f 2 end =>> int
	val x = if flag then 1 else 2 =>> int
	val x = if 1 < 2 then (1, true) else (2, false) =>> int * bool
	val x = case 1 of 1 => true | _ => false end =>> bool
	val x = case nums of Nil => 0 | Cons (y, _) => y end =>> int
	val x = case (1, true) of (y, z) => (z, y) end =>> bool * int
	val x = 1 + 2 =>> int
	val x = 1 - 2 =>> int
	val x = 1 * 2 =>> int
	val x = 1 / 2 =>> int
	val x = 1 = 2 =>> bool
	val x = 1 < 2 =>> bool
	val x = (1 : int) =>> int
	val x = (fn y => y : int -> int) =>> int -> int
	val x = ((fn y => y : M.t -> M.t), (Nil : list)) =>> (#6 -> #6) * #1
	val x = fn y => (y : two) =>> int * int -> int * int
	val x = fn y => (y : M.u) =>> bool -> bool
	val x = fn y => ((y, y) : hid * hid) =>> #8 -> #8 * #8
	val x : int = 1 =>> int
	val x : int -> int = fn y => y =>> int -> int
	val x : (list -> hid) -> list -> hid = fn f => fn y => f y =>> (#1 -> #8) -> #1 -> #8
	fun f x : int = x =>> int -> int
	fun f x y : bool * int = (x, y) =>> bool -> int -> bool * int
	fun f x : int -> int = x =>> (int -> int) -> int -> int
	fun f x y = x y =>> ('a -> 'b) -> 'a -> 'b
	fun f x y z = x z (y z) =>> ('a -> 'b -> 'c) -> ('a -> 'b) -> 'a -> 'c
	fun f x = 1 =>> 'a -> int
	fun f x = f x =>> 'a -> 'b
	fun f x = f 1 =>> int -> 'a
	fun f x y = f y x =>> 'a -> 'a -> 'b
	fun sum l = case l of Nil => 0 | Cons (x, r) => x + sum r end =>> #1 -> int
	fun map f l = case l of Nil => Nil | Cons (x, r) => Cons (f x, map f r) end =>> (int -> int) -> #1 -> #1
	`)
}

// TestF161NoType: what has no typing.
func TestF161NoType(t *testing.T) {
	wants(t, place(), `
	val x = 1 2 =>> ErrType
	val x = true 1 =>> ErrType
	val x = inc true =>> ErrType
	val x = inc (1, 2) =>> ErrType
	val x = Nil 1 =>> ErrType
	val x = Cons 1 =>> ErrType
	val x = Cons (true, Nil) =>> ErrType
	val x = Cons (1, M.N.Empty) =>> ErrType
	val x = M.N.Cons 1 =>> ErrType
	val x = M.get 5 =>> ErrType
	val x = M.get h =>> ErrType
	val x = seen M.x =>> ErrType
	val x = swap 1 =>> ErrType
	val x = twice swap (1, true) =>> ErrType
	val x = fn y => y y =>> ErrType
	val x = fn f => (f 1, f true) =>> ErrType
	val x = fn (y, z) => y z + y true + z =>> ErrType
	val x = fn Cons => 1 =>> ErrType
	val x = fn Nil y => 1 =>> ErrType
	val x = fn Cons (y, true) => 1 =>> ErrType
	val x = (fn 1 => 1) true =>> ErrType
	val x = (fn () => 1) 1 =>> ErrType
	val x = (fn (y, z) => 1) 1 =>> ErrType
	val x = if 1 then 2 else 3 =>> ErrType
	val x = if true then 2 else false =>> ErrType
	val x = if true then inc else 1 =>> ErrType
	val x = case 1 of true => 1 end =>> ErrType
	val x = case 1 of 1 => 1 | true => 2 end =>> ErrType
	val x = case 1 of 1 => 1 | 2 => true end =>> ErrType
	val x = case 1 of 1 => true | y => y end =>> ErrType
	val x = case nums of Nil => 0 | M.N.Empty => 1 end =>> ErrType
	val x = case M.x of 5 => 1 end =>> ErrType
	val x = case (1, 2) of y => y + 1 end =>> ErrType
	val x = true + 1 =>> ErrType
	val x = 1 + true =>> ErrType
	val x = () - 1 =>> ErrType
	val x = 1 * nums =>> ErrType
	val x = true / 1 =>> ErrType
	val x = true = true =>> ErrType
	val x = () < () =>> ErrType
	val x = (1 < 2) + 1 =>> ErrType
	val x = if 1 + 2 then 1 else 2 =>> ErrType
	val x = (1 : bool) =>> ErrType
	val x = (fn y => y : int) =>> ErrType
	val x = (fn y => y : int -> bool) =>> ErrType
	val x = (M.x : hid) =>> ErrType
	val x : int = true =>> ErrType
	val x : int -> bool = fn y => y =>> ErrType
	val x : M.t = 5 =>> ErrType
	fun f x : int = true =>> ErrType
	fun f x : int = f =>> ErrType
	fun f x : int -> int = 1 =>> ErrType
	fun f x = (x : int) + f true =>> ErrType
	fun f x = f =>> ErrType
	fun f x = (f 1, 2) =>> ErrType
	fun f x = x f =>> ErrType
	fun f x y = f x =>> ErrType
	fun f x = if x then f 1 else 2 =>> ErrType
	val x = let val y = true in y + 1 end =>> ErrType
	val x = let val y : int = true in 1 end =>> ErrType
	val x = let val y = 1 2 in 1 end =>> ErrType
	val x = let fun f y = y + true in 1 end =>> ErrType
	val x = let fun f y = y + 1 in f true end =>> ErrType
	`)
}

// TestF161Let: what is open in an ELet, and what the environment around it leaves unknown.
func TestF161Let(t *testing.T) {
	wants(t, place(), `
	val x = let val f = fn y => y in (f 1, f true) end =>> int * bool
	val x = let fun f y = y in (f 1, f true) end =>> int * bool
	val x = let val f = ident in (f 1, f true) end =>> int * bool
	val x = let val f = (ident : int -> int) in f true end =>> ErrType
	val x = let val p = (fn y => y, 1) in (M.N.fst p 1, M.N.fst p true) end =>> int * bool
	val x = let val f = const 1 in (f 1, f true) end =>> ErrType
	val x = let val f = const 1 in (f 1, f 2) end =>> int * int
	val x = let val f = let in fn y => y end in (f 1, f true) end =>> ErrType
	val x = let val f = if flag then ident else ident in (f 1, f true) end =>> ErrType
	val x = let val f = case 1 of _ => ident end in (f 1, f true) end =>> ErrType
	val x = let val f = (ident, 1 + 1) in (M.N.fst f 1, M.N.fst f true) end =>> ErrType
	val x = let val f = (ident, inc 1) in M.N.fst f true end =>> bool
	val x = fn y => let val z = y in (z, z) end =>> 'a -> 'a * 'a
	val x = fn y => let val z = fn w => y in (z 1, z true) end =>> 'a -> 'a * 'a
	val x = fn y => let val z = y in (z 1, z true) end =>> ErrType
	val x = fn y => let val z = fn w => y w in (z 1, z true) end =>> ErrType
	val x = fn y => let val z = fn w => (y, w) in (z 1, z true) end =>> 'a -> 'a * int * ('a * bool)
	val x = fn y => let val z = fn w => (y, w) in (z 1, y + 1) end =>> int -> int * int * int
	val x = fn y => let val z = fn w => (y, w) val u = y + 1 in (z 1, z true) end =>> int -> int * int * (int * bool)
	val x = fn y => let val z = fn w => (y, w) in (z 1, (z true, y + 1)) end =>> int -> int * int * (int * bool * int)
	val x = fn (y, z) => let val f = fn w => (y, w) in (f z, f y) end =>> 'a * 'b -> 'a * 'b * ('a * 'a)
	val x = fn y => let val f = fn z => let val g = fn w => (y, (z, w)) in (g 1, g true) end in (f 1, f true) end =>> 'a -> 'a * (int * int) * ('a * (int * bool)) * ('a * (bool * int) * ('a * (bool * bool)))
	val x = fn y => case y of z => let val f = fn w => (w, z) in (f 1, f true) end end =>> 'a -> int * 'a * (bool * 'a)
	val x = fn y => case y of (z, u) => let val f = z in (f 1, f true) end end =>> ErrType
	fun f x = let val y = x in y end =>> 'a -> 'a
	fun f x = let val g = fn y => f y in (g x, 1) end =>> ErrType
	fun f x = let fun g y = f x in g 1 end =>> 'a -> 'b
	fun f x = let fun g y = (f y, y) in g 1 end =>> ErrType
	fun f x = let fun g y = f (x + y) in if x = 0 then 1 else g 1 end =>> int -> int
	fun f x y = let fun g z = (x, (y, z)) in (g 1, g true) end =>> 'a -> 'b -> 'a * ('b * int) * ('a * ('b * bool))
	val x = let fun f y = fn z => y val g = f 1 in (g 1, g true) end =>> ErrType
	val x = let fun f y z = y val g = f in (g 1 true, g true 1) end =>> int * bool
	val x = let val z = (fn y => y) (fn y => y) in z 1 end =>> int
	val x = let val z = (fn y => y) (fn y => y) val u = z 1 in z end =>> int -> int
	val x = fn w => let val z = (fn y => y) (fn y => y) val u = fn v => z v in (u, z) end =>> 'a -> ('b -> 'b) * ('b -> 'b)
	val x = fn w => let val z = (fn y => y) (fn y => y) val u = fn v => z v in (u 1, u true) end =>> ErrType
	val x = let val f = Act in f (fn y => y) end =>> #3
	val x = let val f = Cons (1, Nil) in f end =>> #1
	`)
}

// TestF161Hidden: a later declaration of a name hides an earlier one, for those behind it.
func TestF161Hidden(t *testing.T) {
	wants(t, place(), `
	val x = let val y = 1 val y = true in y end =>> bool
	val x = let val y = 1 val y = (y, y) val y = (y, y) in y end =>> int * int * (int * int)
	val x = let val y = true val z = y val y = 1 in (y, z) end =>> int * bool
	val x = let fun f y = y fun f y = (f y, f 1) in f true end =>> ErrType
	val x = let fun f y = y val f = fn y => (f y, f 1) in f true end =>> bool * int
	val x = let val f = 1 fun f y = f y in 1 end =>> int
	val x = let fun f y = y val f = f 1 in f end =>> int
	val x = let val f = fn y => y val g = f val f = 2 in (g f, g true) end =>> int * bool
	val x = fn y => let val y = 1 val f = fn z => (y, z) in (f 1, f true) end =>> 'a -> int * int * (int * bool)
	val x = fn y => let val z = y val y = fn w => (z, w) in (y 1, y true) end =>> 'a -> 'a * int * ('a * bool)
	val x = (let val one = true in one end, one) =>> bool * int
	`)
}

// TestF161Fun: within itself a DFun has one type, behind it the scheme.
func TestF161Fun(t *testing.T) {
	wants(t, place(), `
	fun f x = let val y = f 1 val z = f true in x end =>> ErrType
	fun f x = let val y = f 1 in x end =>> int -> int
	fun f x = let val g = f in (g 1, g true) end =>> ErrType
	val x = let fun f x = x in let val y = f 1 val z = f true in (y, z) end end =>> int * bool
	val x = let fun f x = f x in (f 1 + 1, if f 1 then f true else false) end =>> int * bool
	val x = let fun f x = x fun g x = (f x, f 1) in g true end =>> bool * int
	fun f x y = if x = 0 then y else f (x - 1) y =>> int -> 'a -> 'a
	fun f x y = if x = 0 then y else f y x =>> int -> int -> int
	fun f x y = f =>> ErrType
	fun f x y z = f x =>> ErrType
	fun f x y z = f z y x =>> 'a -> 'b -> 'a -> 'c
	`)
}

// TestF161Canonical: schemes come in their canonical form: TGen in the order in which they first stand.
func TestF161Canonical(t *testing.T) {
	wants(t, place(), `
	val x = fn x => fn y => y x =>> 'a -> ('a -> 'b) -> 'b
	val x = fn f => fn x => f x =>> ('a -> 'b) -> 'a -> 'b
	val x = fn f => fn g => fn x => g (f x) =>> ('a -> 'b) -> ('b -> 'c) -> 'a -> 'c
	fun f x y z = (z, (y, x)) =>> 'a -> 'b -> 'c -> 'c * ('b * 'a)
	val x = fn (x, y) => let val z = fn w => (w, (y, x)) in z end =>> 'a * 'b -> 'c -> 'c * ('b * 'a)
	val x = (fn x => x, (M.N.fst, swap)) =>> ('a -> 'a) * (('b * 'c -> 'b) * ('d * 'e -> 'e * 'd))
	`)
	for _, s := range []string{"fn x => fn y => y x", "swap", "M.on", "1", "(fn x => x, (M.N.fst, swap))"} {
		s, _, err := core.Exp(place(), exp(s))
		if err != api.OK || !types.RightScheme(s) || len(types.Metas(s.T)) > 0 {
			t.Errorf("%s: not in its form", types.SchemeText(s))
		}
	}
	// So the schemes of an environment, in whatever form what is open there has.
	e := env.Env{Vals: []env.Val{{Name: "f", S: api.Scheme{Gens: 2, T: fn(gen(0), fn(gen(1), gen(0)))}, X: v("f")}}}
	want(t, e, dec("val x = f 1"), "ErrFree")
	want(t, e, dec("val x = fn y => f y"), "'a -> 'b -> 'a")
	want(t, e, dec("val x = (1, f)"), "int * ('a -> 'b -> 'a)")
}

// TestP1602Least: what nothing asks for is left open, and nothing more.
func TestP1602Least(t *testing.T) {
	wants(t, place(), `
	val x = fn x => fn y => fn z => if x = 1 then y else z =>> int -> 'a -> 'a -> 'a
	val x = fn x => case x of (y, z) => (z, y) | w => swap w end =>> 'a * 'b -> 'b * 'a
	val x = fn x => case x of (y, z) => (z, y) | w => w end =>> 'a * 'a -> 'a * 'a
	val x = fn x => case x of y => y | _ => x end =>> 'a -> 'a
	val x = fn f => fn x => (f (f x) : int) =>> (int -> int) -> int -> int
	val x = fn f => fn x => f (f x) =>> ('a -> 'a) -> 'a -> 'a
	val x = fn x => twice x =>> ('a -> 'a) -> 'a -> 'a
	val x = fn x => M.dup (M.dup x) =>> 'a -> 'a * 'a * ('a * 'a)
	val x = fn (f, x) => (f x, f 1) =>> (int -> 'a) * int -> 'a * 'a
	`)
}
