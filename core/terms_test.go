package core_test

import (
	"math"
	"strings"
	"testing"

	"wafer/api"
	"wafer/core"
	"wafer/env"
	"wafer/kernel"
	"wafer/target"
	"wafer/trans"
)

// typed: the term of a declaration, and its scheme, which the kernel has told of it in the environment.
func typed(t *testing.T, e env.Env, d api.Dec) (api.Scheme, api.TM) {
	t.Helper()
	return placed(e).typed(t, d)
}

// spot: an environment, and what the kernel is told of it.
type spot struct {
	e    env.Env
	vars []int
	l    []kernel.Bind
}

func placed(e env.Env) spot {
	vars, l := around(e)
	return spot{e, vars, l}
}

func (p spot) typed(t *testing.T, d api.Dec) (api.Scheme, api.TM) {
	t.Helper()
	s, x, err := core.Dec(p.e, d)
	if err != api.OK {
		t.Fatalf("%s: %v", show(d), err)
	}
	is, err := trans.Scheme(s)
	if err != api.OK {
		t.Fatalf("%s: trans does not take the scheme: %v", show(d), err)
	}
	own, err := kernel.Check(x, p.vars, p.l)
	if err != api.OK || !target.SameType(own, is) {
		t.Fatalf("%s: the term has the type %s, %v, want %s: %s", show(d), brief(target.Text(own)), err, brief(target.Text(is)), brief(target.Show(x)))
	}
	return s, x
}

// count: how many nodes of a kind a term has.
func count(m api.TM, kind int) int {
	n := 0
	if m.Kind == kind {
		n++
	}
	for _, kid := range m.Kids {
		n += count(kid, kind)
	}
	return n
}

// TestF162Runs: what terms come to, and in how many steps.
func TestF162Runs(t *testing.T) {
	for line := range strings.Lines(`
	val x = 5 =>> 5 in 0
	val x = true =>> true in 0
	val x = false =>> false in 0
	val x = () =>> () in 0
	val x = one =>> 1 in 0
	val x = nums =>> Cons ((2, Cons ((1, Cons ((3, Nil)))))) in 0
	val x = M.x =>> 5 in 0
	val x = M.N.one =>> false in 0
	val x = M.N.fst (1, true) =>> 1 in 0
	val x = Nil =>> Nil in 0
	val x = M.Green =>> Green in 0
	val x = Cons (1, Nil) =>> Cons ((1, Nil)) in 0
	val x = Cons =>> fn Cons ((2, Cons ((1, Nil)))) in 0
	val x = (1, (2, true)) =>> (1, (2, true)) in 0
	val x = 1 + 2 * 3 - 8 / 3 =>> 5 in 0
	val x = 0 - 7 / 2 =>> -3 in 0
	val x = (0 - 7) / 2 =>> -3 in 0
	val x = 1 < 2 =>> true in 0
	val x = 2 < 2 =>> false in 0
	val x = 2 = 2 =>> true in 0
	val x = 9223372036854775807 + 1 =>> -9223372036854775808 in 0
	val x = if flag then 1 else 2 =>> 1 in 0
	val x = if 2 < 1 then 1 / 0 else 2 =>> 2 in 0
	val x = (1 : int) =>> 1 in 0
	val x = let val y = 1 val z = y + 1 in (y, z) end =>> (1, 2) in 0
	val x = let val y = 1 val y = y + 1 val y = y + y in y end =>> 4 in 0
	val x = let val one = one + 1 in one end =>> 2 in 0
	val x = case 3 of 3 => 1 | _ => 2 end =>> 1 in 0
	val x = case 4 of 3 => 1 | _ => 2 end =>> 2 in 0
	val x = case 4 of y => y | 4 => 2 end =>> 4 in 0
	val x = case 4 of 4 => 1 | 4 => 2 end =>> 1 in 0
	val x = case 4 of 3 => 1 | 5 => 2 end =>> ErrCase in 0
	val x = case (1, 2) of (1, 1) => 1 | (2, 2) => 2 | (y, 2) => y + 10 | _ => 4 end =>> 11 in 0
	val x = case nums of Nil => 0 | Cons (y, Cons (z, _)) => y * 10 + z | _ => 5 end =>> 21 in 0
	val x = case Cons (7, Nil) of Nil => 0 | Cons (y, Cons (z, _)) => y * 10 + z | Cons (y, _) => y end =>> 7 in 0
	val x = case M.N.y of M.N.Cons () => 0 | M.N.Box (M.Red, _) => 1 | M.N.Box (M.Green, Cons (y, _)) => y | _ => 3 end =>> 9 in 0
	val x = case true of false => 1 end =>> ErrCase in 0
	val x = case () of () => 1 end =>> 1 in 0
	val x = 1 / 0 =>> ErrZero in 0
	val x = (case 1 of 2 => 3 end, 1 / 0) =>> ErrCase in 0
	val x = (1 / 0, case 1 of 2 => 3 end) =>> ErrZero in 0
	val x = fn y => y + 1 =>> fn 3 in 1
	val x = (fn y => y + 1) 2 =>> 3 in 1
	val x = (fn y => fn z => y - z) 5 3 =>> 2 in 2
	val x = (fn y => fn z => y - z) 5 =>> fn 3 in 2
	val x = (fn (y, z) => y - z) (5, 3) =>> 2 in 1
	val x = (fn 3 => 1) 3 =>> 1 in 1
	val x = (fn 3 => 1) 4 =>> ErrCase in 1
	val x = (fn _ => 1) (1 / 0) =>> ErrZero in 0
	val x = (fn () => 1) () =>> 1 in 1
	val x = (fn Cons (y, _) => y) nums =>> 2 in 1
	val x = (fn Cons (y, _) => y) Nil =>> ErrCase in 1
	val x = (fn f => f (f 1)) (fn y => y + y) =>> 4 in 3
	val x = twice (fn y => y + y) 3 =>> 12 in 2
	val x = ident (fn y => y) 3 =>> 3 in 1
	val x = let fun f y = y + 1 in f (f 1) end =>> 3 in 2
	val x = let fun f y z = y - z in f 5 3 end =>> 2 in 1
	val x = let fun f y z = y - z val g = f 5 in (g 1, g 2) end =>> (4, 3) in 2
	val x = let fun f y z w = 1 / 0 val g = f 5 val h = g 6 in 1 end =>> 1 in 0
	val x = let fun f y z w = 1 / 0 in f 1 2 3 end =>> ErrZero in 1
	val x = let fun f y = 1 in 2 end =>> 2 in 0
	val x = let val f = fn y => y in (f 1, f true) end =>> (1, true) in 2
	val x = let val f = let in fn y => y + 1 end in f 1 end =>> 2 in 1
	val x = let fun fact n = if n = 0 then 1 else n * fact (n - 1) in fact 5 end =>> 120 in 6
	val x = let fun loop y = loop (y + 1) in loop 0 + 1 end =>> ErrFuel in 50
	val x = (fn y => let fun loop y = loop y in loop y end) 1 + 1 =>> ErrFuel in 50
	fun f n = if n = 0 then 1 else n * f (n - 1) =>> fn 2 in 3
	fun sum l = case l of Nil => 0 | Cons (x, r) => x + sum r end =>> fn 1 in 2
	fun f x y = (y, x) =>> fn fn (2, 2) in 1
	fun f x = fn y => (y, x) =>> fn fn (2, 2) in 2
	val x = case fn y => y + 1 of f => f (f 1) end =>> 3 in 2
	val x = case Act (fn y => y * 2) of Act f => f 4 | Roll f => 0 end =>> 8 in 1
	val x = (if (fn y => y) true then fn y => y + 1 else fn y => y) 1 =>> 2 in 2
	val x = case (fn y => y) 1 of 2 => 1 | y => (fn z => z + y) 5 end =>> 6 in 2
	val x = let val f = fn x => case x of 0 => 0 | y => y end in (f 0, f 1) end =>> (0, 1) in 2
	`) {
		if line = strings.TrimSpace(line); line == "" {
			continue
		}
		text, is, _ := strings.Cut(line, " =>> ")
		d := dec(text)
		s, x := typed(t, place(), d)
		if got := meant(x, 50, s.T); got != is {
			t.Errorf("%s: %s, want %s", text, got, is)
		}
		if got := runs(d, 50, s.T); got != is {
			t.Errorf("%s: %s by its source, want %s", text, got, is)
		}
	}
}

// TestF162Fuel: a step comes ahead of the pattern of a fn, and ahead of all in a body.
func TestF162Fuel(t *testing.T) {
	for _, c := range []struct {
		d    string
		fuel int
		want string
	}{
		{"val x = (fn 3 => 1) 4", 0, "ErrFuel in 0"},
		{"val x = (fn 3 => 1) 4", 1, "ErrCase in 1"},
		{"val x = (fn Nil => 1) nums", 0, "ErrFuel in 0"},
		{"val x = (fn y => 1 / 0) 4", 0, "ErrFuel in 0"},
		{"val x = (fn y => 1 / 0) (1 / 0)", 0, "ErrZero in 0"},
		{"val x = let fun f y z = 1 / 0 in f 1 2 end", 0, "ErrFuel in 0"},
		{"val x = let fun f y z = 1 / 0 in f 1 (2 / 0) end", 0, "ErrZero in 0"},
		{"val x = let fun f y z = y in f 1 2 end", 1, "1 in 1"},
		{"val x = (fn y => y) ((fn z => z) 1)", 1, "ErrFuel in 1"},
		{"val x = case 1 of 2 => 3 end", 0, "ErrCase in 0"},
		{"val x = let val y = 1 in Cons (y, Nil) end", 0, "Cons ((1, Nil)) in 0"},
	} {
		s, x := typed(t, place(), dec(c.d))
		if got := meant(x, c.fuel, s.T); got != c.want {
			t.Errorf("%s with %d: %s, want %s", c.d, c.fuel, got, c.want)
		}
	}
}

// TestF162Ticks: a term has an XTick for each EFn and each DFun, right within what binds its last argument, and no other one.
func TestF162Ticks(t *testing.T) {
	for _, s := range []string{
		"val x = 1", "fun f x = x", "fun f x y z = x", "val x = fn y => fn z => y", "val x = fn (1, (2, Cons (y, _))) => y",
		"val x = case nums of Nil => fn y => 1 | Cons (1, _) => fn y => y + 1 | Cons (y, Nil) => fn z => y | _ => let fun f y = y + 1 in f end end",
		"fun f x = let fun g y z = f (g y x) val h = fn w => f w in if x = 1 then g 1 2 else h 3 end",
	} {
		d := dec(s)
		bodies := 0
		if d.Kind == api.DFun {
			bodies++
		}
		for _, x := range expsOf(&d) {
			if x.Kind == api.EFn {
				bodies++
			}
			for _, d := range x.Decs {
				if d.Kind == api.DFun {
					bodies++
				}
			}
		}
		_, x := typed(t, place(), d)
		if got := count(x, api.XTick); got != bodies {
			t.Errorf("%s: %d ticks, want %d", s, got, bodies)
		}
	}
	_, x := typed(t, place(), dec("fun f x y z = (y, z)"))
	for x.Kind == api.XAll {
		x = x.Kids[0]
	}
	for i, kind := range []int{api.XFix, api.XLam, api.XLam, api.XTick, api.XPair} {
		if x.Kind != kind {
			t.Fatalf("place %d: kind %d, want %d", i, x.Kind, kind)
		}
		x = x.Kids[0]
	}
}

// TestF162ByChance: the kernel takes the term at the scheme's type (P1601), and it comes to what the source comes to, in as many steps, for declarations by chance.
func TestF162ByChance(t *testing.T) {
	t.Parallel()
	p, newMaker := placed(place()), makers()
	ends, open := map[string]int{}, 0
	for seed := range int64(12000) {
		m := newMaker(seed)
		d := m.someDec(2 + m.Intn(4))
		if _, _, err := core.Dec(p.e, d); err != api.OK {
			continue
		}
		s, x := p.typed(t, d)
		if s.Gens > 0 {
			open++
		}
		fuel := 3 + m.Intn(60)
		is, got := runs(d, fuel, s.T), meant(x, fuel, s.T)
		if is != got {
			t.Fatalf("%d: %s with %d: %s, want %s", seed, show(d), fuel, got, is)
		}
		ends[strings.Fields(got)[0]]++
	}
	if open < 3000 || ends["ErrFuel"] < 100 || ends["ErrCase"] < 200 || ends["ErrZero"] < 200 || ends["fn"] < 1000 {
		t.Errorf("%d are open, %v: the test does not try much", open, ends)
	}
}

// TestF162Surroundings: whatever stamps stand free in the environment, the numbers that a term binds are others.
func TestF162Surroundings(t *testing.T) {
	d := dec("val x = fn x => let fun f y = (x, y) val g = fn z => (z, f) in (f, g) end")
	for _, first := range []int{0, 1, 7, 1 << 20, math.MaxInt32 - 20} {
		e := place()
		for i := range 21 {
			e.Typs = append(e.Typs, env.Typ{Name: "n", T: stamp(first + i)})
			e.Vals = append(e.Vals, env.Val{Name: "more", S: api.Scheme{Gens: 1, T: fn(gen(0), stamp(first+i))}, X: v("more")})
		}
		e.Typs = append(e.Typs, env.Typ{Name: "n", T: fn(stamp(math.MaxInt32), stamp(math.MaxInt32-3))})
		typed(t, e, d)
		typed(t, e, dec("val x = fn y => (y, (more, fn z => (z : n)))"))
	}
	// The values' own terms are told, whatever names are bound around.
	e := place()
	e.Cons[len(e.Cons)-1].X, e.Cons[len(e.Cons)-1].Out = v("Dot"), v("Out")
	typed(t, e, dec("fun f nums = case (Dot, nums) of (Dot, x) => (x, one) end"))
}

// TestF162Fixed: what no name fixes within a term may be of any type.
func TestF162Fixed(t *testing.T) {
	for _, s := range []string{
		"val x = (fn y => 1) (fn z => z)", "val x = let val y = ident ident in 1 end", "fun f x = (fn y => x) (fn z => z)", "val x = stuck (fn y => (y, ident ident))", "val x = case fn y => y of _ => 1 end",
		"val x = fn y => let val z = fn w => (fn u => w) (ident ident) in z end", "val x = let fun f x = f x in 1 end", "val x = case (fn y => y, 1) of (_, z) => z end", "val x = (fn _ => 1) (fn y => case y of z => ident z end)",
	} {
		d := dec(s)
		sc, x := typed(t, place(), d)
		if got, want := meant(x, 40, sc.T), runs(d, 40, sc.T); got != want {
			t.Errorf("%s: %s, want %s", s, got, want)
		}
	}
}
