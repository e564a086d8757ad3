package modules_test

import (
	"strings"
	"testing"

	"wafer/api"
	"wafer/env"
	"wafer/modules"
)

// TestRuns: what is made goes on as its source does: in order, with a step for each entry into a functor's body, behind its argument, and none for anything else of structures.
func TestRuns(t *testing.T) {
	empty := placed(env.Env{})
	for line := range strings.Lines(`
	9 | =>> in 0
	9 | val x = 1 val y = x + 1 =>> x = 1, y = 2 in 0
	9 | val x = 1 / 0 val y = case 1 of 2 => 3 end =>> ErrZero in 0
	9 | val x = case 1 of 2 => 3 end val y = 1 / 0 =>> ErrCase in 0
	9 | structure A = struct val x = 1 / 0 end val y = case 1 of 2 => 3 end =>> ErrZero in 0
	9 | val y = case 1 of 2 => 3 end structure A = struct val x = 1 / 0 end =>> ErrCase in 0
	9 | structure A = struct val x = 7 structure B = struct val y = x + 1 end val z = B.y end val w = A.B.y + A.z =>> w = 16, A.x = 7, A.z = 8, A.B.y = 8 in 0
	9 | structure A :> sig end = struct val x = 1 / 0 end =>> ErrZero in 0
	9 | structure A :> sig val y : int end = struct val y = 3 val x = (fn z => z) y end val x = A.y =>> x = 3, A.y = 3 in 1
	9 | structure A = let val x = 1 / 0 in struct val y = case 1 of 2 => 3 end end end =>> ErrZero in 0
	9 | structure A = let val x = 5 structure B = struct val x = x + 1 end in struct val y = (x, B.x) end end =>> A.y = (5, 6) in 0
	9 | data t = K | L of int * t val x = L (1, L (2, K)) fun sum l = case l of K => 0 | L (n, r) => n + sum r end val y = sum x =>> sum = fn 3, x = L ((1, L ((2, K)))), y = 3 in 6
	9 | data t = K | L of int data u = M of t val f = L val x = M (f 3) val y = case x of M (L n) => n | M K => 0 end =>> f = fn L (2), x = M (L (3)), y = 3 in 0
	9 | data t = K structure A = struct data u = L of t val x = L K end val y = case A.x of A.L z => z end =>> y = K, A.x = L (K) in 0
	9 | functor F (X : sig end) = struct val x = 1 / 0 end =>> in 0
	9 | functor F (X : sig val x : int end) = struct val y = X.x + 1 end structure A = F(struct val x = 4 end) structure B = F(struct val x = A.y end) =>> A.y = 5, B.y = 6 in 2
	0 | functor F (X : sig end) = struct val x = 1 / 0 end structure A = F(struct end) =>> ErrFuel in 0
	1 | functor F (X : sig end) = struct val x = 1 / 0 end structure A = F(struct end) =>> ErrZero in 1
	0 | functor F (X : sig end) = struct end structure A = F(struct val x = 1 / 0 end) =>> ErrZero in 0
	1 | functor F (X : sig end) = struct end structure A = F(F(struct val x = 1 / 0 end)) =>> ErrZero in 0
	1 | functor F (X : sig end) = struct end structure A = F(F(struct end)) =>> ErrFuel in 1
	9 | functor F (X : sig end) = struct end structure A = F(F(F(struct end))) =>> in 3
	9 | functor F (X : sig val f : int -> int end) = struct val x = X.f 1 end structure A = F(struct fun f x = x + 1 val g = f end) =>> A.x = 2 in 2
	9 | functor F (X : sig val f : int -> int end) = struct val f = X.f end structure A = F(struct val f = fn x => x end) val y = A.f 5 =>> y = 5, A.f = fn 2 in 3
	9 | functor F (X : sig type t val z : t end) = struct data w = N | K of X.t val p = K X.z end structure P = F(struct type t = int val z = 3 end) structure Q = F(struct type t = int val z = 3 end) =>> P.p = K (3), Q.p = K (3) in 2
	9 | functor F (X : sig val x : int end) = struct functor G (Y : sig val y : int end) = struct val z = X.x - Y.y end end structure A = F(struct val x = 9 end) structure B = A.G(struct val y = 2 end) structure C = A.G(struct val y = 3 end) =>> B.z = 7, C.z = 6 in 3
	9 | structure A : sig val f : int -> int end = struct val f = fn x => x end val x = A.f 1 =>> x = 1, A.f = fn 2 in 2
	9 | structure A :> sig type t val x : t val f : t -> int end = struct type t = int val x = 20 fun f x = x + 1 end val y = A.f A.x =>> y = 21, A.f = fn 21, A.x = hidden 20 in 2
	9 | structure A :> sig data t = K | L of t val y : t end = struct data t = K | L of t val x = K val y = L x end val z = case A.y of A.L A.K => 1 | _ => 2 end =>> z = 1, A.y = L (K) in 0
	`) {
		if line = strings.TrimSpace(line); line == "" {
			continue
		}
		fuel, text, _ := strings.Cut(line, " | ")
		text, want, _ := strings.Cut(text, "=>> ")
		l := unit(text)
		if got := empty.decs(t, l, 0); strings.HasPrefix(got, "Err") {
			t.Fatalf("%s: %s", text, got)
		}
		m, _, _ := modules.Decs(env.Env{}, l, 0)
		if ahead, in, _ := strings.Cut(want, "in "); ahead == "" {
			want = " in " + in
		}
		same(t, text, meant(m.X, int(fuel[0]-'0'), m.A.S), want)
		same(t, text+" by its source", runs(l, int(fuel[0]-'0'), m.A.S), want)
	}
}

// ticks: how many steps a term has.
func ticks(x api.TM) int {
	n := 0
	if x.Kind == api.XTick {
		n++
	}
	for _, kid := range x.Kids {
		n += ticks(kid)
	}
	return n
}

// TestTicks: a term has an XTick for each functor, each fn and each fun, and no other one.
func TestTicks(t *testing.T) {
	for _, c := range []struct {
		text string
		want int
	}{
		{"val x = 1 data t = K | L of int * t val y = L (1, K) val z = case y of K => 1 | L (n, _) => n end", 0},
		{"fun f x = x val g = fn x => fn y => x", 3},
		{"functor F (X : sig end) = struct end", 1},
		{"functor F (X : sig type t type u end) = struct functor G (Y : sig end) = X structure Z = G(struct end) end structure A = F(struct type t = int data u = K end)", 2},
		{"structure A :> sig type t val f : t -> t structure B : sig val g : int -> int end end = struct data t = K fun f x = x structure B = struct fun g x = x end end structure B = let val f = A.f in A : sig end end", 2},
	} {
		m, i, err := modules.Decs(env.Env{}, unit(c.text), 0)
		if err != api.OK || ticks(m.X) != c.want {
			t.Errorf("%s: %s at %d, %d ticks, want %d", c.text, code(err), i, ticks(m.X), c.want)
		}
	}
	m, _, _ := modules.Decs(env.Env{}, unit("functor F (X : sig type t type u val x : t * u end) = struct val y = X.x end"), 0)
	x := m.X
	for i, kind := range []int{api.XLet, api.XAll, api.XAll, api.XLam, api.XTick} {
		if x.Kind != kind {
			t.Fatalf("place %d: kind %d, want %d", i, x.Kind, kind)
		}
		x = x.Kids[0]
	}
}

// TestStamps: the stamps of what is made are those that stand in it, in the order in which they were made; so in a functor's Res.
func TestStamps(t *testing.T) {
	stamps := func(text string) ([]int, []int, int) {
		m, i, err := modules.Decs(env.Env{}, unit(text), 10)
		if err != api.OK {
			t.Fatalf("%s: %s at %d", text, code(err), i)
		}
		var res []int
		for _, f := range m.A.S.Funs {
			res = append(res, f.F.Res.Stamps...)
		}
		return m.A.Stamps, res, m.Next
	}
	for _, c := range []struct {
		text        string
		stamps, res []int
		next        int
	}{
		{"data t = K", ints(10), nil, 11},
		{"data u = K structure Z = struct data b = K data a = L end data t = L structure A = struct data c = K end", ints(10, 11, 12, 13, 14), nil, 15},
		{"structure A = struct data t = K data u = L end structure B = A structure C = A : sig type u end structure D = A :> sig type u end", ints(10, 11, 13), nil, 14},
		{"structure A = struct data t = K data u = L end : sig type u end", ints(11), nil, 13},
		{"structure A = struct data t = K data u = L end :> sig type t type u end", ints(12, 13), nil, 14},
		{"structure A = let data t = K data u = L data v = M of t in struct data w = N of v type a = u end end", ints(11, 12, 13), nil, 14},
		{"structure A = let data t = K in struct val x = 1 end end", nil, nil, 11},
		// They stand in functors and in signatures, too, where they are not bound.
		{"structure A = let data t = K data u = L data v = M in struct signature S = sig val x : t type w end functor F (X : sig val y : u end) = struct end end end", ints(10, 11), nil, 14},
		{"signature S = sig type t type u end", nil, nil, 12},
		{"functor F (X : sig type t end) = struct data a = K data b = L of X.t end", nil, ints(11, 12), 13},
		{"functor F (X : sig type t end) = let data a = K data b = L of a in struct val x = 1 val y = L K end end", nil, ints(12), 13},
		{"functor F (X : sig type t end) = let data a = K in X end", nil, nil, 12},
		{"functor F (X : sig type t end) = struct data a = K end structure A = F(struct data t = L end) structure B = F(struct type t = A.a end)", ints(13, 14), ints(11), 15},
		{"functor F (X : sig type t end) = struct data a = K type t = X.t end structure A = F(struct data v = M data t = L end)", ints(13, 14), ints(11), 15},
		{"functor F (X : sig type t end) = struct functor G (Y : sig type u end) = struct data a = K of X.t * Y.u end end structure A = F(struct data t = L end) structure B = A.G(A.G(struct type u = bool end) : sig type u end)", nil, nil, -1},
		{"functor F (X : sig type t end) = struct functor G (Y : sig type u end) = struct data u = K of X.t * Y.u end end structure A = F(struct data t = L end) structure B = A.G(A.G(struct type u = bool end))", ints(13, 14, 15), nil, 16},
	} {
		if c.next < 0 {
			if _, _, err := modules.Decs(env.Env{}, unit(c.text), 10); err != api.ErrMatch {
				t.Errorf("%s: %s", c.text, code(err))
			}
			continue
		}
		got, res, next := stamps(c.text)
		if tell(got) != tell(c.stamps) || tell(res) != tell(c.res) || next != c.next {
			t.Errorf("%s: %v, %v of functors, to %d, want %v, %v, %d", c.text, got, res, next, c.stamps, c.res, c.next)
		}
		placed(env.Env{}).decs(t, unit(c.text), 10)
	}
}

// TestShelter: terms of the environment are not caught by what is bound within, nor by one another, and those that nobody asks for need not be there.
func TestShelter(t *testing.T) {
	e := env.Env{
		Vals: []env.Val{
			{Name: "x", S: api.Scheme{T: integer()}, X: sel("x", v("N"))},
			{Name: "x", S: api.Scheme{T: boolean()}, X: v("y")},
			{Name: "y", S: api.Scheme{T: integer()}, X: v("x")},
			{Name: "z", S: api.Scheme{T: stamp(1)}, X: sel("x", v("M"))},
			{Name: "w", S: api.Scheme{T: boolean()}, X: api.TM{}},
			{Name: "w", S: api.Scheme{T: integer()}, X: v("w")},
			{Name: "none", S: api.Scheme{T: integer()}},
			{Name: "M", S: api.Scheme{T: boolean()}, X: sel("x", v("N"))},
		},
		Cons: []env.Con{{Name: "K", T: stamp(1), Args: []api.Type{integer()}, All: []api.Ctor{ctor("K", integer())}, X: v("$of"), Out: v("m")}, {Name: "L", T: stamp(1), All: []api.Ctor{ctor("L")}}},
		Funs: []env.Fun{{Name: "NONE"}},
		Subs: []env.Sub{{Name: "M", X: v("A 1")}, {Name: "M", S: str(val("x", stamp(1))), X: v("M")}, {Name: "N", S: str(val("x", integer())), X: v("f")}, {Name: "NONE"}},
	}
	g := spot{e, ints(1), nil}
	for name, t := range map[string]api.Type{"y": boolean(), "x": integer(), "w": integer(), "$of": fn(integer(), stamp(1))} {
		g.l = append(g.l, bindOf(name, must(transType(t))))
	}
	g.l = append(g.l, bindOf("m", must(transOut(1, ctor("K", integer())))))
	g.l = append(g.l, bindOf("M", must(absType(abs(nil, val("x", stamp(1)))))), bindOf("f", must(absType(abs(nil, val("x", integer()))))))
	for _, c := range []struct{ text, want string }{
		{"val a = x val b = y val c = z val d = w", "val a: bool; val b: int; val c: #1; val d: int | 0 to 5"},
		{"val x = y val y = x val f = fn m => N.x structure N2 = N", "val f: 'a -> int; val x: int; val y: int; structure N2;   val x: int | 0 to 5"},
		{"val m = case K 1 of K n => n end fun f x = case x of K y => (fn K z => z + w) (K y) end val z = f z", "val f: #1 -> int; val m: int; val z: int | 0 to 5"},
		{"val f = M.x structure M = N val g = (N.x, M.x)", "val f: #1; val g: int * int; structure M;   val x: int | 0 to 5"},
		{"functor F (X : sig val x : int end) = struct val f = (X.x, N.x) end structure Y = F(N)", "structure Y;   val f: int * int; functor F;   from;     val x: int;   to;     val f: int * int | 0 to 5"},
	} {
		same(t, c.text, g.decs(t, unit(c.text), 5), c.want)
	}
}
