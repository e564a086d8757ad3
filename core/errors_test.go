package core_test

import (
	"strconv"
	"strings"
	"testing"

	"wafer/api"
	"wafer/core"
	"wafer/env"
	"wafer/tree"
)

// TestExamples: the chapter's examples.
func TestExamples(t *testing.T) {
	wants(t, env.Env{}, `
	val id = fn x => x =>> 'a -> 'a
	fun k x y = x =>> 'a -> 'b -> 'a
	val p = let val f = fn x => x in (f 1, f true) end =>> int * bool
	val q = (fn f => (f 1, f true)) (fn x => x) =>> ErrType
	val r = (fn x => x) (fn y => y) =>> ErrFree
	fun f x = f x + 1 =>> 'a -> int
	fun g x = g =>> ErrType
	val z = y + zz =>> ErrUnbound
	val x = fn (a, a) => b =>> ErrTwice
	val w = fn x => (x : 'a) =>> ErrTyvar
	val v : int = true =>> ErrType
	fun fact n = if n = 0 then 1 else n * fact (n - 1) =>> int -> int
	`)
}

// TestF161Arg: another declaration than a DVal or a DFun, right or not.
func TestF161Arg(t *testing.T) {
	for _, s := range []string{"type t = int", "data t = A", "structure A = B", "signature S = sig end", "functor F (X : sig end) = struct end"} {
		want(t, env.Env{}, dec(s), "ErrArg")
		d := dec(s)
		d.Name = "1"
		want(t, env.Env{}, d, "ErrArg")
	}
	for _, kind := range []int{-1, 0, 3, 8, 1 << 60, -1 << 63} {
		d := val("x", num(1))
		d.Kind = kind
		want(t, env.Env{}, d, "ErrArg")
		d.Exps = nil
		want(t, env.Env{}, d, "ErrArg")
	}
	// Ahead of what is nested too deep.
	d := val("x", deepExp(200))
	d.Kind = api.DData
	want(t, env.Env{}, d, "ErrArg")
}

// deepExp: an expression of so many nodes, one in the other but for the last two.
func deepExp(depth int) api.Exp {
	x := num(1)
	for range depth - 1 {
		x = bin(api.OAdd, x, num(1))
	}
	return x
}

// TestF161Right: the error of tree.Right, ahead of all that is asked of names and types.
func TestF161Right(t *testing.T) {
	faulty := exp("fn (a, a) => (nope true : 'a)")
	with := func(change func(d *api.Dec)) api.Dec {
		d := val("x", faulty)
		change(&d)
		return d
	}
	long := strings.Repeat("a", 33)
	for _, c := range []struct {
		d    api.Dec
		want string
	}{
		{with(func(d *api.Dec) { d.Name = "X" }), "ErrName"},
		{with(func(d *api.Dec) { d.Name = "" }), "ErrName"},
		{with(func(d *api.Dec) { d.Name = "end" }), "ErrName"},
		{with(func(d *api.Dec) { d.Name = long }), "ErrBig"},
		{with(func(d *api.Dec) { d.Exps = nil }), "ErrArg"},
		{with(func(d *api.Dec) { d.Exps = append(d.Exps, num(1)) }), "ErrArg"},
		{with(func(d *api.Dec) { d.Params = []string{"y"} }), "ErrArg"},
		{with(func(d *api.Dec) { d.Tys = []api.Ty{ty("int"), ty("int")} }), "ErrArg"},
		{with(func(d *api.Dec) { d.Tys = []api.Ty{{}} }), "ErrArg"},
		{with(func(d *api.Dec) { d.Kind = api.DFun }), "ErrArg"},
		{with(func(d *api.Dec) { d.Kind, d.Params = api.DFun, []string{"x", "x", "Y"} }), "ErrName"},
		{with(func(d *api.Dec) { d.Exps[0] = both(faulty, api.Exp{}) }), "ErrArg"},
		{with(func(d *api.Dec) { d.Exps[0] = both(faulty, num(-1)) }), "ErrArg"},
		{with(func(d *api.Dec) { d.Exps[0] = both(faulty, id("X")) }), "ErrName"},
		{with(func(d *api.Dec) { d.Exps[0] = both(faulty, id("A.B.C.D.E.F.G.H.x")) }), "ErrBig"},
		{with(func(d *api.Dec) { d.Exps[0] = both(faulty, letIn(num(1), dec("type t = int"))) }), "ErrArg"},
		{with(func(d *api.Dec) { d.Exps[0] = both(faulty, deepExp(99)) }), "ErrDeep"},
		{with(func(d *api.Dec) { d.Exps[0] = broad(2047, func(int) api.Exp { return faulty }) }), "ErrBig"},
	} {
		if _, err := tree.Right([]api.Dec{c.d}); code(err) != c.want {
			t.Errorf("%s: tree.Right tells %v, want %s", show(c.d), err, c.want)
		}
		want(t, place(), c.d, c.want)
	}
}

// TestF161Limits: declarations at the limits of depth and nodes, and one above.
func TestF161Limits(t *testing.T) {
	want(t, env.Env{}, val("x", deepExp(99)), "int")
	want(t, env.Env{}, val("x", deepExp(100)), "ErrDeep")
	want(t, env.Env{}, fun("f", "y", deepExp(99)), "'a -> int")
	// So many: of a declaration the nodes of n leaves in EBins are 1 and 2 n - 1.
	sum := func(leaves int) api.Exp {
		var from func(n int) api.Exp
		from = func(n int) api.Exp {
			if n == 1 {
				return num(1)
			}
			return bin(api.OAdd, from(n/2), from(n-n/2))
		}
		return from(leaves)
	}
	want(t, env.Env{}, val("x", sum(2048)), "int")
	want(t, env.Env{}, val("x", sum(2049)), "ErrBig")
	// Exp has a declaration around it.
	if s, err := core.Type(env.Env{}, deepExp(99)); s != "int" || err != api.OK {
		t.Errorf("%s, %v", s, err)
	}
	if s, err := core.Type(env.Env{}, deepExp(100)); s != "" || err != api.ErrDeep {
		t.Errorf("%s, %v", s, err)
	}
}

// TestF161Twice: names that are bound twice, wherever they stand, ahead of all that comes behind.
func TestF161Twice(t *testing.T) {
	wants(t, place(), `
	val x = fn (y, y) => 1 =>> ErrTwice
	val x = fn (y, (z, (1, y))) => 1 =>> ErrTwice
	val x = fn Cons (y, Cons (z, y)) => 1 =>> ErrTwice
	val x = case 1 of 1 => 2 | (y, y) => 3 end =>> ErrTwice
	val x = case 1 of (y, y) => 2 | 1 => 3 end =>> ErrTwice
	val x = case fn (y, y) => 1 of z => z end =>> ErrTwice
	fun f x x = 1 =>> ErrTwice
	fun f x y z x = 1 =>> ErrTwice
	fun f f = 1 =>> ErrTwice
	fun f x f = 1 =>> ErrTwice
	val x = let fun f f = 1 in 2 end =>> ErrTwice
	val x = let fun f y y = 1 in 2 end =>> ErrTwice
	val x = let val y = fn (z, z) => 1 in 2 end =>> ErrTwice
	val x = let val y = 1 in fn (z, z) => 1 end =>> ErrTwice
	fun f x = fn y => fn (z, z) => 1 =>> ErrTwice
	val x = (fn (y, y) => 1 : int) =>> ErrTwice
	val x = (1, if true then 2 else fn (y, y) => 1) =>> ErrTwice
	val x = nope (fn (y, y) => 1) =>> ErrTwice
	val x = M.nope + Nope (fn (y, Q.A y) => 1) =>> ErrTwice
	val x : nope = fn (y, y) => 1 =>> ErrTwice
	val x : 'a = fn (y, y) => 1 =>> ErrTwice
	val x = (1 2, fn (y, y) => 1) =>> ErrTwice
	val x = (fn (y, y) => 1, (nope, ((1 : 'a), 1 + true))) =>> ErrTwice
	fun f x : nope = fn (y, y) => nope =>> ErrTwice
	val x = let val x = 1 val x = 2 in x end =>> int
	val x = let fun x y = 1 fun x y = 2 in x 1 end =>> int
	fun f x = fn f => fn x => 1 =>> 'a -> 'b -> 'c -> int
	fun f x = case x of (x, f) => fn x => f end =>> 'a * 'b -> 'c -> 'b
	val x = fn (y, z) => fn (z, y) => y =>> 'a * 'b -> 'c * 'd -> 'd
	val x = (fn (y, z) => y, fn (y, z) => z) =>> ('a * 'b -> 'a) * ('c * 'd -> 'd)
	val x = fn (_, _) => 1 =>> 'a * 'b -> int
	val x = case (1, 2) of (1, 1) => 1 | (y, _) => y | (_, y) => y end =>> int
	`)
}

// TestF161Unbound: paths that are not there, wherever they stand, ahead of type variables and of what has no typing.
func TestF161Unbound(t *testing.T) {
	e := place()
	// What counts: paths of EVar, ECon, PCon and YCon, of one name and of several.
	for _, x := range []string{"nope", "M.nope", "Q.x", "M.Q.x", "M.N.nope", "N.one", "M.N.N.one", "E.one", "M.one", "Nope", "M.Nope", "Q.Red", "M.Nil", "M.N.Red", "E.Dot"} {
		for _, around := range []string{
			"val x = @", "val x = fn y => @", "val x = @ 1", "val x = one @", "val x = (@, 1)", "val x = (1, @)", "val x = let val y = @ in 1 end", "val x = let fun y z = @ in 1 end", "val x = let in @ end",
			"val x = if @ then 1 else 2", "val x = if true then @ else 2", "val x = if true then 1 else @", "val x = case @ of 1 => 2 end", "val x = case 1 of 1 => @ | y => 3 end", "val x = case 1 of 1 => 2 | y => @ end",
			"val x = @ + 1", "val x = 1 < @", "val x = (@ : int)", "fun f y = @", "fun f y = (1 2, @)", "val x = ((1 : 'a), @)", "val x : 'a = @", "val x = (true + 1, @)",
		} {
			want(t, e, dec(strings.ReplaceAll(around, "@", x)), "ErrUnbound")
		}
	}
	for _, x := range []string{"Nope", "M.Nope", "Q.Red", "M.Nil", "M.N.Red", "E.Dot", "Nope 1", "M.Nope y", "Cons (1, Nope)", "(Nope, M.Red)", "Nope Nil", "M.N.Box (Red, z)"} {
		for _, around := range []string{"val x = fn @ => 1", "val x = case 1 of @ => 1 end", "val x = case 1 of 1 => 1 | @ => 2 | z => 3 end", "fun f y = fn z => fn @ => 1 + true", "val x = let val y = fn @ => (1 : 'a) in 1 end"} {
			want(t, e, dec(strings.ReplaceAll(around, "@", x)), "ErrUnbound")
		}
	}
	for _, x := range []string{"nope", "M.nope", "Q.t", "M.list", "M.N.colour", "N.box", "int -> nope", "nope * 'a", "'a -> M.N.nope", "(bool * (nope -> int)) -> int"} {
		for _, around := range []string{"val x : @ = 1", "val x = (1 : @)", "fun f y : @ = 1", "val x = let val y : @ = 1 in 2 end", "val x = let fun f y : @ = 1 in 2 end", "val x = (1 2 : @)", "val x : @ = 1 2", "val x = ((1 : 'a), (2 : @))"} {
			want(t, e, dec(strings.ReplaceAll(around, "@", x)), "ErrUnbound")
		}
	}
	// Nothing is there without an environment, but for what is bound, and the three words.
	wants(t, env.Env{}, `
	val x : int -> bool -> unit = fn y => fn z => () =>> int -> bool -> unit
	val x = (fn y => y : (int * bool) -> int * bool) =>> int * bool -> int * bool
	val x = Nil =>> ErrUnbound
	val x = fn Nil => 1 =>> ErrUnbound
	val x : list = 1 =>> ErrUnbound
	val x = M.y =>> ErrUnbound
	val x = y =>> ErrUnbound
	`)
}

// TestF161Around: what is bound around a name in the declaration counts first, and no further than it is bound.
func TestF161Around(t *testing.T) {
	wants(t, place(), `
	val x = fn one => one =>> 'a -> 'a
	val x = one =>> int
	val x = (fn one => one, one) =>> ('a -> 'a) * int
	val x = (one, fn one => one) =>> int * ('a -> 'a)
	val x = (fn one => 1) one =>> int
	val x = case flag of one => one end =>> bool
	val x = case one of one => one end =>> int
	val x = case flag of true => one | one => 2 end =>> int
	val x = (case flag of one => 1 end, one) =>> int * int
	val x = let val one = flag in one end =>> bool
	val x = let val one = one val one = (one, one) in one end =>> int * int
	val x = (let val one = flag in 1 end, one) =>> int * int
	val x = let fun one y = one (y - 1) + 1 in one end =>> int -> int
	val x = let fun one y = one (y - 1) + 1 in one 1 end =>> int
	val x = let fun f one = one in (f flag, one) end =>> bool * int
	val one = one =>> int
	val one = (one, flag) =>> int * bool
	fun one y = one =>> ErrType
	fun one y = (y, 1) =>> 'a -> 'a * int
	fun f one = one =>> 'a -> 'a
	fun f y z = z f =>> ErrType
	fun ident y = ident y + 1 =>> 'a -> int
	val x = fn M => 1 =>> ErrUnbound
	val x = y =>> ErrUnbound
	val x = x =>> ErrUnbound
	val x = let val y = y in 1 end =>> ErrUnbound
	val x = let val y = 1 in 2 end + y =>> ErrUnbound
	val x = let val z = y val y = 1 in 2 end =>> ErrUnbound
	val x = let fun f y = 1 in y end =>> ErrUnbound
	val x = let fun f y = 1 fun g z = y in 1 end =>> ErrUnbound
	val x = let fun f y = g y fun g y = f y in 1 end =>> ErrUnbound
	val x = (fn y => 1, y) =>> ErrUnbound
	val x = (fn y => y) y =>> ErrUnbound
	val x = case 1 of y => 2 | 1 => y end =>> ErrUnbound
	val x = case y of y => 1 end =>> ErrUnbound
	val x = fn y => M.y =>> ErrUnbound
	val x = fn y => (fn z => y) z =>> ErrUnbound
	val x = let val one = flag in M.N.one end =>> bool
	val x = fn x => M.x =>> 'a -> #6
	val x = case Cons (1, Nil) of Cons (nums, _) => nums | Nil => 0 end =>> int
	`)
}

// TestF161Tyvar: type variables in what is written, wherever it stands, ahead of what has no typing.
func TestF161Tyvar(t *testing.T) {
	wants(t, place(), `
	val x : 'a = 1 =>> ErrTyvar
	val x : 'a -> 'a = fn y => y =>> ErrTyvar
	val x : int -> 'b = fn y => 1 =>> ErrTyvar
	fun f y : 'a = y =>> ErrTyvar
	fun f y : (list * 'a) -> int = y =>> ErrTyvar
	val x = let val y : 'a = 1 in 2 end =>> ErrTyvar
	val x = let fun f y : int * 'a = 1 in 2 end =>> ErrTyvar
	val x = let val y = 1 in (y : 'b) end =>> ErrTyvar
	val x = (1 2, (1 : 'a)) =>> ErrTyvar
	val x = ((1 : 'a), 1 2) =>> ErrTyvar
	val x = (true : 'a) + 1 =>> ErrTyvar
	val x : 'a = 1 + true =>> ErrTyvar
	val x = (fn y => y) (fn z => (z : 'int)) =>> ErrTyvar
	val x = fn Nil y => (1 : 'a) =>> ErrTyvar
	val x = case (1 : 'a) of y => y end =>> ErrTyvar
	val x = case 1 of y => (1 : 'a) end =>> ErrTyvar
	`)
}

// TestF161Free: types that nothing fixes, of what is no value.
func TestF161Free(t *testing.T) {
	wants(t, place(), `
	val x = (fn y => y) (fn z => z) =>> ErrFree
	val x = ident ident =>> ErrFree
	val x = ident (fn y => y) =>> ErrFree
	val x = (ident ident, 1) =>> ErrFree
	val x = (1, M.dup ident) =>> ErrFree
	val x = const 1 =>> ErrFree
	val x = const =>> 'a -> 'b -> 'a
	val x = const 1 2 =>> int
	val x = stuck 1 =>> int
	val x = let in fn y => y end =>> ErrFree
	val x = let val f = fn y => y in f end =>> ErrFree
	val x = if flag then fn y => y else ident =>> ErrFree
	val x = if flag then fn y => y else inc =>> int -> int
	val x = case 1 of y => fn z => z end =>> ErrFree
	val x = (let in fn y => y end, 1) =>> ErrFree
	val x = (let in fn y => y end : int -> int) =>> int -> int
	val x : int -> int = let in fn y => y end =>> int -> int
	val x = (fn y => y : int -> int) =>> int -> int
	val x = Cons =>> int * #1 -> #1
	val x = (Act : (int -> int) -> act) =>> (int -> int) -> #3
	val x = Act (fn y => y) =>> #3
	val x = (Act (ident ident), 1) =>> #3 * int
	val x = inc (ident 1) =>> int
	fun f y = ident ident =>> 'a -> 'b -> 'b
	val x = fn y => ident ident =>> 'a -> 'b -> 'b
	val x = let val y = ident ident in y 1 end =>> int
	val x = let val y = ident ident in 1 end =>> int
	val x = let val y = ident ident in y end =>> ErrFree
	val x = let val y = ident ident in (y 1, y true) end =>> ErrType
	val x = fn z => let val y = ident ident in (y, y) end =>> 'a -> ('b -> 'b) * ('b -> 'b)
	`)
}

// TestF161Order: of several errors the one that the chapter names first, whichever of them stands ahead.
func TestF161Order(t *testing.T) {
	faults := []struct{ x, want string }{
		{"(fn (a, a) => 1)", "ErrTwice"}, {"nope", "ErrUnbound"}, {"(1 : 'a)", "ErrTyvar"}, {"1 2", "ErrType"}, {"fn z => z", ""},
	}
	for i, first := range faults {
		for j, second := range faults {
			is := faults[min(i, j)].want
			if is == "" {
				is = "ErrFree"
			}
			for _, around := range []string{"val x = ident (@, %)", "val x = let val y = @ in % end", "val x = ident (@) (%)", "val x = case @ of y => % end"} {
				s := strings.ReplaceAll(strings.ReplaceAll(around, "@", first.x), "%", second.x)
				if is == "ErrFree" && strings.Contains(s, ") (") {
					// This is no fault: one thing is applied to the other.
					continue
				}
				want(t, place(), dec(s), is)
			}
		}
	}
}

// TestF163: Exp and Type are Dec of `val it = x`.
func TestF163(t *testing.T) {
	e := place()
	for i, c := range []struct{ x, want string }{
		{"1", "int"}, {"(1, fn x => x)", "int * ('a -> 'a)"}, {"fn x => fn y => (y, x)", "'a -> 'b -> 'b * 'a"}, {"Cons (1, Nil)", "#1"}, {"M.x", "#6"}, {"swap", "'a * 'b -> 'b * 'a"},
		{"it", "ErrUnbound"}, {"fn it => it", "'a -> 'a"}, {"fn (x, x) => 1", "ErrTwice"}, {"nope", "ErrUnbound"}, {"(1 : 'a)", "ErrTyvar"}, {"1 2", "ErrType"}, {"ident ident", "ErrFree"}, {"M.get M.x", "int"},
	} {
		x := exp(c.x)
		d := val("it", x)
		want(t, e, d, c.want)
		s, m, err := core.Exp(e, x)
		ds, dm, derr := core.Dec(e, d)
		if tell(s) != tell(ds) || tell(m) != tell(dm) || err != derr {
			t.Errorf("%s: Exp is not Dec", c.x)
		}
		text, err := core.Type(e, x)
		if err == api.OK && text != c.want || err != api.OK && (code(err) != c.want || text != "") {
			t.Errorf("%d: Type(%s): %q, %v", i, c.x, text, err)
		}
	}
	// Of what is not right its error.
	for _, x := range []api.Exp{{}, num(-1), id("X"), {Kind: 99}, ex(api.EPair, num(1))} {
		_, _, err := core.Exp(e, x)
		want := tree.RightExp(x)
		text, also := core.Type(e, x)
		if err != want || also != want || text != "" || want == api.OK {
			t.Errorf("%v: %v, %v", x, err, also)
		}
	}
}

// TestManyParams: as many of Params as come.
func TestManyParams(t *testing.T) {
	t.Parallel()
	params := func(count int) api.Dec {
		d := fun("f", "", num(1))
		for i := range count {
			d.Params = append(d.Params, "x"+strconv.Itoa(i))
		}
		return d
	}
	d := params(499)
	if got := answer(env.Env{}, d); !strings.HasPrefix(got, "'a -> 'b -> ") || !strings.HasSuffix(got, " -> int") {
		t.Error(brief(got))
	}
	if got := answer(env.Env{}, params(500)); got != "ErrType" {
		t.Error(brief(got))
	}
	d = params(500000)
	if got := answer(env.Env{}, d); got != "ErrType" {
		t.Error(brief(got))
	}
	d.Exps[0] = id("nope")
	if got := answer(env.Env{}, d); got != "ErrUnbound" {
		t.Error(brief(got))
	}
	d.Params[499999] = "x7"
	if got := answer(env.Env{}, d); got != "ErrTwice" {
		t.Error(brief(got))
	}
	d.Params[499999] = "f"
	if got := answer(env.Env{}, d); got != "ErrTwice" {
		t.Error(brief(got))
	}
}
