package sigs_test

import (
	"math"
	"testing"

	"wafer/api"
	"wafer/env"
)

// TestExamples: those of the chapter.
func TestExamples(t *testing.T) {
	wants(t, env.Env{}, `
		sig type t val x : t end =>> [5] type t = #5, val x #5; 6
		sig type t val x : t end where type t = int =>> [] type t = int, val x int; 6
		sig data t = A | B of t end =>> [5] type t = #5: A | B of #5; 6
		sig data t = A | B of t end where type t = int =>> ErrWhere
		sig val x : t end =>> ErrUnbound
		sig type t type t end =>> ErrTwice
		sig val f : 'a -> 'a end =>> [] val f 'a -> 'a /1; 5
	`)
}

// TestNext: ErrArg of a next that is out of its range, ahead of all other errors.
func TestNext(t *testing.T) {
	deep := specs()
	for range api.MaxDepth {
		deep = specs(cstr("M", deep))
	}
	for _, g := range []api.Sig{sig("sig type t end"), {}, specs(ctype("X")), deep, path("NOT"), sig("sig type t type t end"), sig("sig val x : 'a end where type t = int")} {
		for _, next := range []int{math.MinInt, math.MinInt32, -2, -1, 1<<30 + 1, math.MaxInt32, math.MaxInt} {
			want(t, world(), g, next, "ErrArg")
		}
	}
	const most = 1 << 30
	want(t, env.Env{}, sig("sig type t end"), 0, "[0] type t = #0; 1")
	want(t, env.Env{}, sig("sig end"), 0, "[]; 0")
	want(t, env.Env{}, sig("sig end"), most, "[]; 1073741824")
	// The numbers behind the first one may be above it, also where one signature stands in another one.
	want(t, world(), sig("sig type t structure A : sig type u structure B : T end where type B.t = bool type v end"), most,
		"[1073741824 1073741825 1073741827] type t = #1073741824, type v = #1073741827, structure A (type u = #1073741825, structure B (type t = bool)); 1073741828")
}

// TestRight: the error of tree.RightSig, ahead of the others.
func TestRight(t *testing.T) {
	deep := specs()
	for range api.MaxDepth - 1 {
		deep = specs(cstr("M", deep))
	}
	unbound := path("NOT")
	for is, l := range map[string][]api.Sig{
		"ErrArg": {
			{}, {Kind: -1}, {Kind: 4}, {Kind: api.SPath, Path: []string{"T"}, Specs: []api.Spec{ctype("t")}}, {Kind: api.SPath}, {Kind: api.SWhere},
			specs(ctype("t"), ctype("t"), cdata("d")), specs(cval("x", ty("t")), api.Spec{Kind: api.CVal, Name: "y"}),
			specs(ctype("t", ty("int"), ty("int"))), specs(cdata("d", con("A", ty("int"), ty("int")))), specs(api.Spec{Kind: api.CStr, Name: "A"}),
			specs(cval("x", ty("u")), api.Spec{Kind: 5, Name: "x"}), specs(cval("x", ty("u")), api.Spec{Kind: math.MinInt}),
			where(unbound, "t", api.Ty{}), specs(cstr("A", unbound), cstr("A", api.Sig{})),
		},
		"ErrName": {path("t"), path("m.T"), specs(cval("X", ty("int"))), specs(cval("x", ty("u")), ctype("T")), where(unbound, "T", ty("int")), specs(cdata("d", con("a"))), specs(cstr("m", unbound))},
		"ErrBig":  {path("A.A.A.A.A.A.A.A.A"), specs(cval("x", ty("u")), ctype("abcdefghijklmnopqrstuvwxyz0123456"))},
		"ErrDeep": {specs(cval("x", ty("u")), cstr("A", deep)), specs(ctype("t"), ctype("t"), cstr("A", specs(cstr("A", deep))))},
	} {
		for _, g := range l {
			want(t, world(), g, 5, is)
		}
	}
	// As deep as nodes may be: signatures at 1, 3, .. , 99, what is specified in the last one at 100.
	most, is := specs(ctype("t")), "type t = #5"
	for range (api.MaxDepth - 1) / 2 {
		most, is = specs(cstr("A", most)), "structure A ("+is+")"
	}
	want(t, env.Env{}, most, 5, "[5] "+is+"; 6")
	want(t, env.Env{}, specs(cstr("A", most)), 5, "ErrDeep")
}

// TestPaths: what the environment has at the path, with new stamps; its lists in order.
func TestPaths(t *testing.T) {
	for g, is := range map[string]string{
		"T":                                   "[5] type t = #5; 6",
		"DATA":                                "[5] type d = #5: A of #5 | B, type e = #5; 6",
		"SEEN":                                "[] type t = #0, val c #2; 5",
		"M.TWO":                               "[5 6] type a = #6, type b = #5, val f #6 -> #5 * #1; 7",
		"M.N.T":                               "[5] type t = #5, val x #5 * #3; 6",
		"LOOSE":                               "[5 6] type s = #6, type t = int, type t = #5, val x #5, val y #6, structure A (), structure B (type a = #5, type z = #6); 7",
		"NOT":                                 "ErrUnbound",
		"M":                                   "ErrUnbound",
		"M.NOT":                               "ErrUnbound",
		"N.T":                                 "ErrUnbound",
		"E.T":                                 "ErrUnbound",
		"M.N.T.T":                             "ErrUnbound",
		"sig structure A : LOOSE end":         "[5 6] structure A (type s = #6, type t = int, type t = #5, val x #5, val y #6, structure A (), structure B (type a = #5, type z = #6)); 7",
		"LOOSE where type t = bool":           "[6] type s = #6, type t = int, type t = bool, val x bool, val y #6, structure A (), structure B (type a = bool, type z = #6); 7",
		"sig structure M : T val x : M.t end": "[5] val x #5, structure M (type t = #5); 6",
		// A structure of the signature hides that of the environment, whose signatures are there no more.
		"sig structure M : T structure A : M.TWO end": "ErrUnbound",
		"sig structure A : M.TWO structure M : T end": "[5 6 7] structure A (type a = #6, type b = #5, val f #6 -> #5 * #1), structure M (type t = #7); 8",
	} {
		want(t, world(), sig(g), 5, is)
	}
}

// TestSpecs: each kind of specification, in the environment and behind others.
func TestSpecs(t *testing.T) {
	wants(t, world(), `
		sig end =>> []; 5
		sig val x : int end =>> [] val x int; 5
		sig val x : t val y : M.t val z : M.N.b end =>> [] val x #0, val y #1, val z bool; 5
		sig val f : 'b -> ('a * 'b) -> 'a end =>> [] val f 'a -> 'b * 'a -> 'b /2; 5
		sig val f : 'c -> t val g : 'c -> 'd end =>> [] val f 'a -> #0 /1, val g 'a -> 'b /2; 5
		sig type u = f end =>> [] type u = #0 -> int; 5
		sig type u = M.two val x : u * u end =>> [] type u = int * int, val x int * int * (int * int); 5
		sig type t val x : t end =>> [5] type t = #5, val x #5; 6
		sig val x : t type t val y : t end =>> [5] type t = #5, val x #0, val y #5; 6
		sig type t = t * t val x : t end =>> [] type t = #0 * #0, val x #0 * #0; 5
		sig type t = int val x : t end =>> [] type t = int, val x int; 5
		sig type b type a type c = a -> b end =>> [5 6] type a = #6, type b = #5, type c = #6 -> #5; 7
		sig type c = colour end =>> [] type c = #2; 5
		sig data d = A end =>> [5] type d = #5: A; 6
		sig data d = B of d * t | A | C of M.t -> d end =>> [5] type d = #5: B of #5 * #0 | A | C of #1 -> #5; 6
		sig data t = A of t | B of f end =>> [5] type t = #5: A of #5 | B of #0 -> int; 6
		sig type t data d = A of t type u = d end =>> [5 6] type d = #6: A of #5, type t = #5, type u = #6; 7
		sig data d = A of e data e = B end =>> ErrUnbound
		sig data e = B data d = A of e end =>> [5 6] type d = #6: A of #5, type e = #5: B; 7
		sig structure A : sig end end =>> [] structure A (); 5
		sig structure B : T structure A : T val x : B.t * A.t end =>> [5 6] val x #5 * #6, structure A (type t = #6), structure B (type t = #5); 7
		sig structure M : sig type t structure N : sig data d = A of t val x : M.N.b end end val x : M.t val y : M.N.d end =>> [5 6] val x #5, val y #6, structure M (type t = #5, structure N (type d = #6: A of #5, val x bool)); 7
		sig type u structure A : sig type v = u type u val x : u end val y : u val z : A.u val w : A.v end =>> [5 6] type u = #5, val w #5, val y #5, val z #6, structure A (type u = #6, type v = #5, val x #6); 7
		sig structure A : sig type t = M.t structure M : T val x : M.t end val y : M.t end =>> [5] val y #1, structure A (type t = #1, val x #5, structure M (type t = #5)); 6
		sig structure M : sig end val x : M.t end =>> ErrUnbound
		sig structure M : T val x : M.N.t end =>> ErrUnbound
		sig structure A : sig type u val y : u end val x : u end =>> ErrUnbound
		sig structure A : sig structure B : T end val x : B.t end =>> ErrUnbound
		sig structure A : sig structure B : T end val x : A.B.t end =>> [5] val x #5, structure A (structure B (type t = #5)); 6
	`)
}

// TestTwice: names of one sort stand but once: those of values and constructors, of types, of structures.
func TestTwice(t *testing.T) {
	wants(t, world(), `
		sig val x : int val x : int end =>> ErrTwice
		sig val x : int val y : int val x : bool end =>> ErrTwice
		sig type t type t = int end =>> ErrTwice
		sig type t = int type u type t end =>> ErrTwice
		sig type d data d = A end =>> ErrTwice
		sig data d = A type d end =>> ErrTwice
		sig data d = A data d = B end =>> ErrTwice
		sig data d = A data e = A end =>> ErrTwice
		sig data d = A | B data e = C | B end =>> ErrTwice
		sig data d = A | A end =>> ErrTwice
		sig data d = A | B of int | A of int end =>> ErrTwice
		sig structure A : T structure A : T end =>> ErrTwice
		sig structure A : T structure B : T structure A : sig end end =>> ErrTwice
		sig structure A : sig val x : int val x : int end end =>> ErrTwice
		sig val t : int type t end =>> [5] type t = #5, val t int; 6
		sig data x = X val x : x structure X : sig type x val x : x data y = X end end =>> [5 6 7] type x = #5: X, val x #5, structure X (type x = #6, type y = #7: X, val x #6); 8
		sig structure A : T structure B : sig structure A : T structure B : T end end =>> [5 6 7] structure A (type t = #5), structure B (structure A (type t = #6), structure B (type t = #7)); 8
	`)
}

// TestOrder: of one specification ErrTwice, then its errors from the left; of several the first one that has an error.
func TestOrder(t *testing.T) {
	wants(t, world(), `
		sig val x : int val x : no end =>> ErrTwice
		sig type u type u = no end =>> ErrTwice
		sig type u type u = 'a end =>> ErrTwice
		sig data d = A of no | A end =>> ErrTwice
		sig type d data d = A of no end =>> ErrTwice
		sig structure A : T structure A : NOT end =>> ErrTwice
		sig val x : no val x : int end =>> ErrUnbound
		sig type u = 'a type u end =>> ErrTyvar
		sig type u = 'a * no end =>> ErrUnbound
		sig type u = 'a val x : no end =>> ErrTyvar
		sig val x : no type u = 'a end =>> ErrUnbound
		sig val x : 'a * no end =>> ErrUnbound
		sig data d = A of 'a | B of no end =>> ErrTyvar
		sig data d = A of no | B of 'a end =>> ErrUnbound
		sig data d = A of 'a -> no end =>> ErrUnbound
		sig structure A : sig type u = 'a end structure A : T end =>> ErrTyvar
		sig structure A : NOT val x : 'a val x : int end =>> ErrUnbound
		sig structure A : sig val x : int val x : int end val y : no end =>> ErrTwice
		sig structure A : T where type no = int structure A : T end =>> ErrUnbound
		sig structure A : DATA where type d = int type t type t end =>> ErrWhere
	`)
}

// TestWhereSigs: the error of what stands ahead of the where, of its type, of the path.
func TestWhereSigs(t *testing.T) {
	wants(t, world(), `
		T where type t = int =>> [] type t = int; 6
		T where type t = t * M.t =>> [] type t = #0 * #1; 6
		T where type u = int =>> ErrUnbound
		T where type M.t = int =>> ErrUnbound
		T where type t = int where type t = int =>> ErrWhere
		SEEN where type t = int =>> ErrWhere
		DATA where type d = int =>> ErrWhere
		DATA where type e = int =>> ErrWhere
		NOT where type t = 'a =>> ErrUnbound
		T where type u = 'a =>> ErrTyvar
		T where type u = no =>> ErrUnbound
		DATA where type d = 'a =>> ErrTyvar
		DATA where type d = no =>> ErrUnbound
		sig type t type t end where type t = no =>> ErrTwice
		sig type u = 'a end where type v = int =>> ErrTyvar
		T where type t = int where type t = no =>> ErrUnbound
		T where type u = 'a where type t = no =>> ErrTyvar
		SEEN where type t = int where type t = 'a =>> ErrWhere
		sig type t = int end where type t = int =>> ErrWhere
		sig type t = int * int end where type t = int * int =>> ErrWhere
		sig type t type u = t end where type u = bool =>> [] type t = bool, type u = bool; 6
		sig type t type u = t * t end where type u = bool =>> ErrWhere
		sig type a type b type c end where type b = int =>> [5 7] type a = #5, type b = int, type c = #7; 8
		sig type a type b type c end where type c = int where type a = bool =>> [6] type a = bool, type b = #6, type c = int; 8
		sig type a end where type a = a =>> ErrUnbound
		sig type t type u end where type u = t =>> [5] type t = #5, type u = #0; 7
		sig structure M : T val x : M.t end where type M.t = M.t =>> [] val x #1, structure M (type t = #1); 6
		sig structure A : sig structure B : T end end where type A.B.t = int =>> [] structure A (structure B (type t = int)); 6
		sig structure A : sig structure B : T end end where type A.t = int =>> ErrUnbound
		sig structure A : sig structure B : T end end where type B.t = int =>> ErrUnbound
		sig type t structure A : T where type t = t -> t type u = A.t end =>> [5] type t = #5, type u = #5 -> #5, structure A (type t = #5 -> #5); 7
		sig type t structure A : T where type t = t -> t type u end where type t = int =>> [7] type t = int, type u = #7, structure A (type t = int -> int); 8
		sig type t data d = A of t | B of d end where type t = int =>> [6] type d = #6: A of int | B of #6, type t = int; 7
		sig data d = A type u = d structure M : sig type v = u end end where type M.v = int =>> ErrWhere
		sig type u structure M : sig data d = A type v = u end end where type M.v = int =>> [6] type u = int, structure M (type d = #6: A, type v = int); 7
		sig type t val f : 'a -> t * 'b end where type t = t -> t =>> [] type t = #0 -> #0, val f 'a -> (#0 -> #0) * 'b /2; 6
	`)
}
