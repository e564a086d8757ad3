package modules_test

import (
	"fmt"
	"slices"
	"strings"
	"testing"

	"wafer/api"
	"wafer/env"
	"wafer/modules"
	"wafer/tree"
)

// TestExamples: the chapter's, and those of the whole that have structures.
func TestExamples(t *testing.T) {
	empty := placed(env.Env{})
	m := "structure M :> sig type t val x : t end = struct type t = int val x = 1 end "
	f := "functor F (X : sig end) = struct data t = A end structure P = F(struct end) structure Q = F(struct end) "
	w := "functor F (X : sig type t val z : t end) = struct data w = N | K of X.t val p = K X.z end structure P = F(struct type t = int val z = 3 end) structure Q = F(struct type t = int val z = 3 end) "
	for _, c := range []struct{ text, want string }{
		{m + "val y = M.x", "val y: ?1; structure M;   type t = ?1;   val x: ?1 | 1 to 1"},
		{m + "val z = M.x + 1", "ErrType at 1"},
		{strings.Replace(m, ":>", ":", 1) + "val z = M.x + 1", "val z: int; structure M;   type t = int;   val x: int | 0 to 1"},
		{f + "val y = if true then P.A else P.A", "val y: ?1; structure P;   data t = ?1: A; structure Q;   data t = ?2: A; functor F;   from;   to;     data t = ?3: A | 2 to 3"},
		{f + "val y = if true then P.A else Q.A", "ErrType at 3"},
		{"structure X = Y", "ErrUnbound at 0"},
		{"structure X : sig val a : int end = struct end", "ErrMatch at 0"},
		{"val x = 1 val x = 2", "ErrTwice at 1"},
		{"structure S :> sig type t val a : t val f : t -> int end = struct type t = int val a = 20 fun f x = x + 1 end val y = S.f S.a", "val y: int; structure S;   type t = ?1;   val a: ?1;   val f: ?1 -> int | 1 to 1"},
		{w + "val bad = if true then P.N else Q.N", "ErrType at 3"},
		{w + "val good = if true then P.N else P.p val y = case Q.p of Q.K n => n + 1 | Q.N => 0 end", "val good: ?1; val y: int; structure P;   data w = ?1: N | K of int;   val p: ?1; structure Q;   data w = ?2: N | K of int;   val p: ?2; functor F;   from;     type t = ?3;     val z: ?3;   to;     data w = ?4: N | K of ?3;     val p: ?4 | 2 to 4"},
		{"val id = fn x => x val p = (id 1, id true)", "val id: 'a -> 'a; val p: int * bool | 0 to 0"},
		{"val id = fn x => x val r = id id", "ErrFree at 1"},
		{"", "| 0 to 0"},
	} {
		same(t, c.text, empty.decs(t, unit(c.text), 0), c.want)
	}
}

// TestP1901Kinds: each kind of declaration, in the environment in which those ahead of it stand.
func TestP1901Kinds(t *testing.T) {
	w := placed(world())
	for _, c := range []struct{ text, want string }{
		{"val x = one", "val x: int | 0 to 50"},
		{"val x = A.f A.x", "val x: int | 0 to 50"},
		{"val y = id val z = y 1", "val y: 'a -> 'a; val z: int | 0 to 50"},
		{"fun f x y = (y, x) val g = f 1", "ErrFree at 1"},
		{"fun f x y = (y, x) val g = fn z => f 1 z", "val f: 'a -> 'b -> 'b * 'a; val g: 'a -> 'a * int | 0 to 50"},
		{"fun one x = one (x - 1) + one x val y = one 1", "val one: int -> int; val y: int | 0 to 50"},
		{"type t = A.t type u = t * two", "type t = #1; type u = #1 * (int * int) | 0 to 50"},
		{"type int2 = int type list = int2 val x = (1 : list)", "type int2 = int; type list = int; val x: int | 0 to 50"},
		{"data t = P | Q of t * list val x = Q (P, Nil)", "data t = ?1: P | Q of ?1 * #0; val x: ?1 | 1 to 51"},
		// A datatype's name is there in it, not what had the name ahead of it; another type of its constructors' names goes on.
		{"data list = Nil | Cons of list val x = Cons Nil", "data list = ?1: Nil | Cons of ?1; val x: ?1 | 1 to 51"},
		{"data t = Nil val x = (Nil, Cons (1, A.x)) ", "ErrType at 1"},
		{"data t = P of u data u = Q", "ErrUnbound at 0"},
		{"data t = P type u = t data v = Q of u val x = Q P", "data t = ?1: P; type u = ?1; data v = ?2: Q of ?1; val x: ?2 | 2 to 52"},
		{"structure X = A val y = X.f X.x", "val y: int; structure X;   type t = #1;   val f: #1 -> int;   val x: #1 | 0 to 50"},
		{"structure X = struct data t = P end structure Y = X val z = if true then X.P else Y.P", "val z: ?1; structure X;   data t = ?1: P; structure Y;   data t = ?1: P | 1 to 51"},
		{"structure X = struct val one = true val two = one end val two = (one, X.one)", "val two: int * bool; structure X;   val one: bool;   val two: bool | 0 to 50"},
		{"structure X = struct data t = P structure Y = struct data t = P end end val x = X.P val y = X.Y.P", "val x: ?1; val y: ?2; structure X;   data t = ?1: P;   structure Y;     data t = ?2: P | 2 to 52"},
		// What is outside is seen again behind a structure that hides it, and within it the constructors that it does not have.
		{"data t = P | R structure X = struct data u = P of t val x = (P R, R) end val y = ((P, X.P P), X.x)", "data t = ?1: P | R; val y: ?1 * ?2 * (?2 * ?1); structure X;   data u = ?2: P of ?1;   val x: ?2 * ?1 | 2 to 52"},
		{"signature T = sig type t val x : t * A.t end structure X : T = struct type t = int val x = (1, A.x) end", "structure X;   type t = int;   val x: int * #1; signature T;   type t = ?1;   val x: ?1 * #1 | 0 to 52"},
		{"signature T = S signature U = T where type t = list", "signature T;   type t = ?1;   val f: ?1 -> int;   val x: ?1; signature U;   type t = #0;   val f: #0 -> int;   val x: #0 | 0 to 52"},
		{"functor H (X : S) = struct val y = X.f X.x type t = X.t end structure R = H(A) val z = (R.y, (A.x : R.t))", "val z: int * #1; structure R;   type t = #1;   val y: int; functor H;   from;     type t = ?1;     val f: ?1 -> int;     val x: ?1;   to;     type t = ?1;     val y: int | 0 to 51"},
		// A functor's parameter is there in its body alone, and hides what has its name.
		{"functor H (A : sig val x : bool end) = struct val y = A.x end val z = A.x", "val z: #1; functor H;   from;     val x: bool;   to;     val y: bool | 0 to 50"},
		{"functor H (X : sig end) = struct end structure Y = X", "ErrUnbound at 1"},
		{"functor H (X : sig end) = H(X)", "ErrUnbound at 0"},
		{"functor H (H : sig structure H : sig end end) = H.H", "functor H;   from;     structure H;   to | 0 to 50"},
		{"structure X = struct functor H (Y : sig end) = struct data t = P end signature T = sig type t end end structure Z :> X.T = X.H(struct end)", "structure X;   functor H;     from;     to;       data t = ?1: P;   signature T;     type t = ?2; structure Z;   type t = ?3 | 1 to 54"},
	} {
		same(t, c.text, w.decs(t, unit(c.text), 50), c.want)
	}
}

// TestP1901Errors: each kind of declaration has its own errors, at its number.
func TestP1901Errors(t *testing.T) {
	w := placed(world())
	for _, c := range []struct{ text, want string }{
		{"val x = 1 val y = z", "ErrUnbound at 1"},
		{"val x = fn (y, y) => z", "ErrTwice at 0"},
		{"val x = 1 val y = x + true", "ErrType at 1"},
		{"val x = (1 : 'a)", "ErrTyvar at 0"},
		{"val x = id id", "ErrFree at 0"},
		{"fun f x x = y", "ErrTwice at 0"},
		{"fun f x = f", "ErrType at 0"},
		{"type t = u", "ErrUnbound at 0"},
		{"type t = 'a * u", "ErrUnbound at 0"},
		{"type t = 'a", "ErrTyvar at 0"},
		{"type t = t", "ErrUnbound at 0"},
		{"data t = P of 'a", "ErrTyvar at 0"},
		{"data t = P of 'a | Q of u", "ErrTyvar at 0"},
		{"data t = P of u | Q of 'a", "ErrUnbound at 0"},
		{"val x = 1 structure X = struct val y = 1 val z = y + true end", "ErrType at 1"},
		{"structure X = struct structure Y = struct val a = 1 val b = 2 val c = d end end", "ErrUnbound at 0"},
		{"structure X = NO.A", "ErrUnbound at 0"},
		{"structure X = F", "ErrUnbound at 0"},
		{"structure X = NO(A)", "ErrUnbound at 0"},
		{"structure X = A(B)", "ErrUnbound at 0"},
		{"structure X = F(B)", "ErrMatch at 0"},
		{"signature T = NO", "ErrUnbound at 0"},
		{"signature T = sig type t type t end", "ErrTwice at 0"},
		{"signature T = S where type t = u", "ErrUnbound at 0"},
		{"signature T = S where type t = int where type t = int", "ErrWhere at 0"},
		{"functor H (X : NO) = ALSO", "ErrUnbound at 0"},
		{"functor H (X : sig val x : int val x : int end) = NO", "ErrTwice at 0"},
		{"functor H (X : S) = struct val y = X.x + 1 end", "ErrType at 0"},
		{"functor H (X : S) = struct val y = X.z end", "ErrUnbound at 0"},
		{"functor H (X : S) = F(struct end)", "ErrMatch at 0"},
		{"val a = 1 val b = 2 val c = 3 functor H (X : S) = NO", "ErrUnbound at 3"},
	} {
		same(t, c.text, w.decs(t, unit(c.text), 50), c.want)
	}
}

// TestP1901Twice: names of each sort by itself: ahead of a declaration's errors, of names ahead of it, and of those that stand twice in it.
func TestP1901Twice(t *testing.T) {
	w := placed(world())
	twice := func(text string, i int) {
		t.Helper()
		same(t, text, w.decs(t, unit(text), 50), fmt.Sprint("ErrTwice at ", i))
	}
	for _, text := range []string{"val x = 1", "fun x y = y", "type x = int", "data x = P", "data y = X", "structure X = A", "signature X = S", "functor X (Y : S) = Y"} {
		l := append(unit(text), unit(text)...)
		same(t, text, w.decs(t, l, 50), "ErrTwice at 1")
	}
	twice("val x = 1 fun x y = no", 1)
	twice("fun x y = 1 val z = 1 val x = no", 2)
	twice("type t = int data t = P of no", 1)
	twice("data t = P type t = no", 1)
	twice("structure X = A functor X (Y : NO) = Y", 1)
	twice("functor X (Y : S) = Y structure X = NO", 1)
	twice("signature X = S signature X = NO", 1)
	twice("data t = P data u = Q of no | P", 1)
	twice("data t = P of no | Q | P", 0)
	twice("data t = P of 'a | P", 0)
	twice("data t = P val x = 1 data u = Q | R | S | R", 2)
	// A name of one sort is none of another one; nor is one of an outer structure, or of a parameter.
	same(t, "sorts", w.decs(t, unit("val x = 1 type x = int data y = X | Y structure X = A signature X = S functor Y (Y : S) = Y val y = X.x"), 50),
		fmt.Sprintf("type x = int; data y = ?1: X | Y; val x: int; val y: #1; structure X;   type t = #1;   val f: #1 -> int;   val x: #1; functor Y;   from;     type t = ?2;     val f: ?2 -> int;     val x: ?2;   to;     type t = ?2;     val f: ?2 -> int;     val x: ?2; signature X;   type t = ?3;   val f: ?3 -> int;   val x: ?3 | 1 to 53"))
	same(t, "outer", w.decs(t, unit("val x = 1 type t = int structure X = struct val x = true type t = bool structure X = struct val x = () end end val y = x + 1"), 50),
		"type t = int; val x: int; val y: int; structure X;   type t = bool;   val x: bool;   structure X;     val x: unit | 0 to 50")
	same(t, "those of the environment", w.decs(t, unit("val one = true type list = int data two = Nil structure A = B signature S = sig end functor F (X : S) = X"), 50)[:30], "type list = int; data two = ?1")
}

// TestP1901Numbers: ErrArg and 0 ahead of all of next, then tree.Right's error and number.
func TestP1901Numbers(t *testing.T) {
	w := placed(world())
	for _, next := range edges() {
		for _, l := range [][]api.Dec{nil, unit("val x = 1"), unit("val x = no"), {{}}, {dval("x", num(1)), dval("x", num(-1))}} {
			m, i, err := modules.Decs(w.e, l, next)
			if next < 0 || next > 1<<30 {
				same(t, fmt.Sprint(next), answer(m, i, err), "ErrArg at 0")
			} else if at, want := tree.Right(l); want != api.OK && (i != at || err != want) {
				t.Errorf("%d: %s at %d, want %s at %d", next, code(err), i, code(want), at)
			}
		}
	}
	deep := num(1)
	for range api.MaxDepth {
		deep = ex(api.EPair, deep, num(1))
	}
	for _, c := range []struct {
		l    []api.Dec
		want string
	}{
		{[]api.Dec{dval("x", num(1)), dval("x", id("no")), {}}, "ErrArg at 2"},
		{[]api.Dec{dval("x", id("no")), dval("X", num(1))}, "ErrName at 1"},
		{[]api.Dec{dval("x", id("no")), dval("x", deep), {}}, "ErrDeep at 1"},
		{append(slices.Repeat([]api.Dec{dval("x", num(1))}, api.MaxNodes/2), dtype("t", ycon("int"))), "ErrBig at 0"},
		{append(slices.Repeat([]api.Dec{dval("x", num(1))}, api.MaxNodes/2-1), dtype("t", ycon("int"))), "ErrTwice at 1"},
		{[]api.Dec{ddata("d")}, "ErrArg at 0"},
	} {
		same(t, tell(c.l), w.decs(t, c.l, 50), c.want)
	}
	// The greatest numbers from which may be counted.
	same(t, "last", w.decs(t, unit("data t = P data u = Q val x = (P, Q)"), 1<<30), "data t = ?1: P; data u = ?2: Q; val x: ?1 * ?2 | 2 to 1073741826")
	// What is called with a number behind that has an error of its own.
	same(t, "behind", w.decs(t, unit("data t = P structure X = struct end"), 1<<30), "ErrArg at 1")
	same(t, "behind", w.decs(t, unit("data t = P signature X = sig end"), 1<<30), "ErrArg at 1")
	same(t, "behind", w.decs(t, unit("data t = P functor X (Y : sig end) = Y"), 1<<30), "ErrArg at 1")
	same(t, "behind", w.decs(t, unit("signature X = sig type t end structure Y : X = NO"), 1<<30), "ErrArg at 1")
}

// wideType: a declaration of a type with so many leaves: in a structure it has twice as many nodes.
func wideType(name string, leaves int) api.Dec { return dtype(name, wideTy(leaves, ycon("int"))) }

// full: declarations with which a structure has so many nodes, an odd number from 3003 on.
func full(nodes int) []api.Dec {
	return []api.Dec{wideType("w0", 500), wideType("w1", 500), wideType("w2", 500), wideType("w3", (nodes-3001)/2)}
}

// TestP1901Big: ErrBig, behind a declaration's errors, if the structure so far, with it, has more than MaxStr nodes.
func TestP1901Big(t *testing.T) {
	w := placed(world())
	decs := func(what string, l []api.Dec, want string) {
		t.Helper()
		if got := w.decs(t, l, 50); !strings.HasSuffix(got, want) {
			t.Errorf("%s: %s, want %s", what, brief(got), want)
		}
	}
	none := func(n int, l ...api.Dec) []api.Dec { return append(full(api.MaxStr-n), l...) }
	decs("all but one", none(1), "| 0 to 50")
	decs("a value", none(1, dval("y", num(1))), "ErrBig at 4")
	decs("an error is ahead", none(1, dval("y", id("no"))), "ErrUnbound at 4")
	decs("a name is ahead", none(1, dtype("w0", ycon("int"))), "ErrTwice at 4")
	decs("a type", none(1, dtype("t", ycon("int"))), "ErrBig at 4")
	decs("a datatype", none(1, ddata("t", con("P"))), "ErrBig at 4")
	decs("a structure", none(1, dstr("X", structure())), "ErrBig at 4")
	decs("a signature", none(1, dsig("X", specs())), "ErrBig at 4")
	decs("a functor", none(1, dfunctor("X", "Y", specs(), at("Y"))), "ErrBig at 4")
	// With room for just so much: a structure counts 1 and its own nodes, a datatype's constructor 1, a functor all that it has.
	decs("a value of 2", none(3, dval("y", num(1))), "| 0 to 50")
	decs("a structure of 2", none(3, dstr("X", structure())), "| 0 to 50")
	decs("a structure of 4", none(3, dstr("X", structure(dval("y", num(1))))), "ErrBig at 4")
	decs("a datatype of 3", none(3, ddata("t", con("P"))), "| 1 to 51")
	decs("a datatype of 4", none(3, ddata("t", con("P"), con("Q"))), "ErrBig at 4")
	decs("a signature of 2", none(3, dsig("X", specs())), "| 0 to 50")
	decs("a functor of 3", none(3, dfunctor("X", "Y", specs(), at("Y"))), "| 0 to 50")
	decs("a functor of 7", none(5, dfunctor("X", "Y", specs(), structure(ddata("t", con("P"))))), "ErrBig at 4")
	decs("a functor of 7", none(7, dfunctor("X", "Y", specs(), structure(ddata("t", con("P"))))), "| 0 to 51")
	// What stands within is asked by itself, too; the stamps of a structure do not count.
	decs("within", []api.Dec{dstr("X", structure(none(1, dval("y", num(1)))...))}, "ErrBig at 0")
	decs("around", []api.Dec{dstr("X", structure(none(3)...))}, "| 0 to 50")
	decs("around", []api.Dec{dstr("X", structure(none(1)...))}, "ErrBig at 0")
	decs("around", []api.Dec{dstr("X", structure(none(3)...)), dstr("Y", structure())}, "ErrBig at 1")
	decs("around", []api.Dec{dstr("X", structure(dstr("Y", structure(none(3)...))))}, "ErrBig at 0")
	decs("datatypes", none(601, datas(200)...), "| 200 to 250")
	decs("datatypes", none(601, datas(201)...), "ErrBig at 204")
	decs("types", []api.Dec{wideType("u", 250), dtype("v", yboth(api.YPair, ycon("u"), ycon("u"))), dtype("w", yboth(api.YPair, ycon("v"), ycon("int")))}, "ErrBig at 2")
}

// datas: so many datatypes, each of which has three nodes in a structure.
func datas(count int) []api.Dec {
	var l []api.Dec
	for i := range count {
		l = append(l, ddata(fmt.Sprint("t", i), con(fmt.Sprint("P", i))))
	}
	return l
}

// TestP1901Many: as many members as a structure may have.
func TestP1901Many(t *testing.T) {
	t.Parallel()
	var vals []api.Dec
	for i := range api.MaxNodes / 2 {
		vals = append(vals, dval(fmt.Sprint("x", i), num(1)))
	}
	for _, c := range []struct {
		l    []api.Dec
		want string
	}{
		{vals[:1999], "| 0 to 0"},
		{vals, "ErrBig at 1999"},
		{datas(1333), "| 1333 to 1333"},
		{datas(1334), "ErrBig at 1333"},
	} {
		m, i, err := modules.Decs(env.Env{}, c.l, 0)
		if got := answer(m, i, err); !strings.HasSuffix(got, c.want) {
			t.Errorf("%s, want %s", brief(got), c.want)
		}
		if err == api.OK {
			placed(env.Env{}).typed(t, c.want, m)
		}
	}
}

// TestP1901Sorted: what is told is in the order of names, all through, and each list is of its sort.
func TestP1901Sorted(t *testing.T) {
	l := unit("val z = 1 structure Z = struct val b = 1 val a = 2 end data z = Q | P structure A = Z val a = 1 type a = int functor C (X : sig end) = struct val b = 1 val a = 2 end functor B (X : sig end) = X signature T = sig val y : int val x : int end signature Q = T")
	m, _, err := modules.Decs(env.Env{}, l, 0)
	if err != api.OK || tell(m.A.S) != tell(env.Sorted(m.A.S)) {
		t.Errorf("%s: %s", code(err), tell(m.A.S))
	}
	if got := m.A.S.Types[1].Ctors; len(got) != 2 || got[0].Name != "Q" {
		t.Errorf("constructors keep their order: %v", got)
	}
}
