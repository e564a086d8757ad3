package parsemod_test

import (
	"reflect"
	"strings"
	"testing"

	"wafer/api"
	"wafer/names"
	"wafer/parsemod"
)

// faces: the calls by the names of their rules.
func faces() []string { return []string{"unit", "mod", "sig", "mdec"} }

// call: Unit, Mod, Sig or Dec by the name of its rule.
func call(rule, s string) (node any, at int, e api.Errno) {
	switch rule {
	case "unit":
		return wide(parsemod.Unit(s))
	case "mod":
		return wide(parsemod.Mod(s))
	case "sig":
		return wide(parsemod.Sig(s))
	}
	return wide(parsemod.Dec(s))
}

func wide[N any](node N, at int, e api.Errno) (any, int, api.Errno) { return node, at, e }

// zero: what call answers beside an error.
func zero(rule string) any {
	return map[string]any{"unit": []api.Dec{}, "mod": api.Mod{}, "sig": api.Sig{}, "mdec": api.Dec{}}[rule]
}

// brief: a text that is not too long to be told.
func brief(s string) string {
	if len(s) > 400 {
		return s[:400] + ".."
	}
	return s
}

// checkError: is that the place and the error, with nothing beside it?
func checkError(t *testing.T, rule, s string, at int, e api.Errno) {
	t.Helper()
	node, gotAt, got := call(rule, s)
	if gotAt != at || got != e {
		t.Errorf("%s of %q: %d, %v, not %d, %v", rule, brief(s), gotAt, got, at, e)
	}
	if !alike(node, zero(rule)) {
		t.Errorf("%s of %q: an error beside %s", rule, brief(s), brief(shown(node)))
	}
}

// checkNode: is a text read as that node?
func checkNode(t *testing.T, rule, s, want string) {
	t.Helper()
	node, at, e := call(rule, s)
	if got := shown(node); got != want || at != 0 || e != api.OK {
		t.Errorf("%s of %q: %s, %d, %v, not %s", rule, s, got, at, e, want)
	}
}

type sample struct{ rule, s, want string }

// declarations: each alternative of the rules of declarations, constructors and seals.
func declarations() []sample {
	return []sample{
		{"mdec", "val x = 1", "[val:0 x {1}]"}, {"mdec", "val x : M.t = f x", "[val:0 x {M.t} {f x}]"},
		{"mdec", "fun f x = x", "[fun:0 f x {x}]"}, {"mdec", "fun f x y z : int = x", "[fun:0 f x y z {int} {x}]"},
		{"mdec", "type t = int", "[type:0 t {int}]"}, {"mdec", "type t = 'a * M.t -> (u)", "[type:0 t {'a * M.t -> u}]"}, {"mdec", " (* *)type t=int ", "[type:6 t {int}]"},
		{"mdec", "data t = A", "[data:0 t A]"}, {"mdec", "data t = | A", "[data:0 t A]"}, {"mdec", "data t = A of int", "[data:0 t A{int}]"}, {"mdec", "data t = | A of int -> t", "[data:0 t A{int -> t}]"},
		{"mdec", "data t = A | B", "[data:0 t A B]"}, {"mdec", "data t = | A | B of t", "[data:0 t A B{t}]"}, {"mdec", "data t = A of int * M.u | B | C of 'a | D", "[data:0 t A{int * M.u} B C{'a} D]"},
		{"mdec", "data t = A | A", "[data:0 t A A]"},
		{"mdec", "structure M = N", "[structure:0 M N]"}, {"mdec", "structure M : S = N", "[structure:0 M [: N S]]"}, {"mdec", "structure M :> S = N", "[structure:0 M [:> N S]]"},
		{"mdec", "structure M : S where type t = int = N", "[structure:0 M [: N [where t S {int}]]]"}, {"mdec", "structure M :> sig type t end where type t = A.u = N.O", "[structure:0 M [:> N.O [where t [sig [type:19 t]] {A.u}]]]"},
		{"mdec", "structure M : S where type t = int where type L.u = t = N", "[structure:0 M [: N [where L.u [where t S {int}] {t}]]]"},
		{"mdec", "structure M = N : S", "[structure:0 M [: N S]]"}, {"mdec", "structure M = N :> S", "[structure:0 M [:> N S]]"},
		{"mdec", "structure M : S = N :> T", "[structure:0 M [: [:> N T] S]]"}, {"mdec", "structure M :> S = N : T", "[structure:0 M [:> [: N T] S]]"}, {"mdec", "structure M : S = N : T :> U", "[structure:0 M [: [:> [: N T] U] S]]"},
		{"mdec", "structure M : S = (N : T)", "[structure:0 M [: [: N T] S]]"}, {"mdec", "structure M :> A.S = F(N : T) : U", "[structure:0 M [:> [: [@F [: N T]] U] A.S]]"},
		{"mdec", "signature S = T", "[signature:0 S T]"}, {"mdec", "signature S = sig end", "[signature:0 S [sig]]"}, {"mdec", "signature S = A.T where type M.t = int", "[signature:0 S [where M.t A.T {int}]]"},
		{"mdec", "functor F (X : S) = M", "[functor:0 F X S M]"}, {"mdec", "functor F(X : S) : T = M", "[functor:0 F X S [: M T]]"}, {"mdec", "functor F(X : S) :> T = X", "[functor:0 F X S [:> X T]]"},
		{"mdec", "functor F(X : sig type t end) :> T where type t = X.t = struct type t = X.t end", "[functor:0 F X [sig [type:18 t]] [:> [struct [type:63 t {X.t}]] [where t T {X.t}]]]"},
		{"mdec", "functor F(X : S where type t = int) : T where type u = X.t where type v = int = M :> U : V", "[functor:0 F X [where t S {int}] [: [: [:> M U] V] [where v [where u T {X.t}] {int}]]]"},
		{"mdec", "functor F(X : S) = M : T", "[functor:0 F X S [: M T]]"}, {"mdec", "functor F(F : F) = F(F)", "[functor:0 F F F [@F F]]"},
	}
}

// expressions: each alternative of the rules of structure and signature expressions and of specifications.
func expressions() []sample {
	return []sample{
		{"mod", "M", "M"}, {"mod", "M.N", "M.N"}, {"mod", "A . B\n.C", "A.B.C"}, {"mod", "F(M)", "[@F M]"}, {"mod", "M.F (N.O)", "[@M.F N.O]"}, {"mod", "F(G(M))", "[@F [@G M]]"}, {"mod", "F(struct end)", "[@F [struct]]"},
		{"mod", "F((M))", "[@F M]"}, {"mod", "F(M : S)", "[@F [: M S]]"}, {"mod", "F(M) : S", "[: [@F M] S]"}, {"mod", "F(let in M end)", "[@F [let M]]"},
		{"mod", "(M)", "M"}, {"mod", "((M))", "M"}, {"mod", "(((F(M))))", "[@F M]"}, {"mod", "(M : S)", "[: M S]"}, {"mod", "((M : S) :> T)", "[:> [: M S] T]"}, {"mod", "(struct end)", "[struct]"}, {"mod", "(let in (M) end)", "[let M]"},
		{"mod", "struct end", "[struct]"}, {"mod", "struct val x = 1 end", "[struct [val:7 x {1}]]"}, {"mod", "struct val x = f type t = int structure M = N end", "[struct [val:7 x {f}] [type:17 t {int}] [structure:30 M N]]"},
		{"mod", "struct structure M = struct structure N = struct end end end", "[struct [structure:7 M [struct [structure:28 N [struct]]]]]"},
		{"mod", "let in M end", "[let M]"}, {"mod", "let type t = int in M end", "[let [type:4 t {int}] M]"}, {"mod", "let fun f x = x signature S = T functor F(X : S) = X in F(M) : S end", "[let [fun:4 f x {x}] [signature:16 S T] [functor:32 F X S X] [: [@F M] S]]"},
		{"mod", "let in let in M end end", "[let [let M]]"}, {"mod", "let in M end : S", "[: [let M] S]"}, {"mod", "let in M : S end", "[let [: M S]]"}, {"mod", "let val x = let val y = 1 in y end in M end", "[let [val:4 x {let val y = 1 in y end}] M]"},
		{"mod", "M : S", "[: M S]"}, {"mod", "M.N :> A.S", "[:> M.N A.S]"}, {"mod", "M : S : T", "[: [: M S] T]"}, {"mod", "M : S :> T : U", "[: [:> [: M S] T] U]"}, {"mod", "struct end :> sig end", "[:> [struct] [sig]]"},
		{"mod", "M : S where type t = int :> T", "[:> [: M [where t S {int}]] T]"}, {"mod", "M:>S:T", "[: [:> M S] T]"},

		{"sig", "S", "S"}, {"sig", "M.S", "M.S"}, {"sig", "A.B.C.S", "A.B.C.S"}, {"sig", "sig end", "[sig]"}, {"sig", "S where type t = int", "[where t S {int}]"}, {"sig", "S where type M.N.t = int -> u", "[where M.N.t S {int -> u}]"},
		{"sig", "S where type t = int where type M.u = bool", "[where M.u [where t S {int}] {bool}]"}, {"sig", "sig end where type t = (a) where type t = b where type t = c", "[where t [where t [where t [sig] {a}] {b}] {c}]"},
		{"sig", "sig val x : int end", "[sig [val:4 x {int}]]"}, {"sig", "sig val x : 'a -> M.t end", "[sig [val:4 x {'a -> M.t}]]"}, {"sig", "sig type t end", "[sig [type:4 t]]"}, {"sig", "sig type t = int * u end", "[sig [type:4 t {int * u}]]"},
		{"sig", "sig type t type u = t type v end", "[sig [type:4 t] [type:11 u {t}] [type:22 v]]"},
		{"sig", "sig data t = A end", "[sig [data:4 t A]]"}, {"sig", "sig data t = | A | B of t end", "[sig [data:4 t A B{t}]]"}, {"sig", "sig data t = | A of int | B data u = C end", "[sig [data:4 t A{int} B] [data:28 u C]]"},
		{"sig", "sig structure M : S end", "[sig [structure:4 M S]]"}, {"sig", "sig structure M : sig type t end where type t = int end", "[sig [structure:4 M [where t [sig [type:22 t]] {int}]]]"},
		{"sig", "sig structure M : A.S where type t = int where type N.u = t val x : M.t end where type M.v = t", "[where M.v [sig [structure:4 M [where N.u [where t A.S {int}] {t}]] [val:60 x {M.t}]] {t}]"},
		{"sig", "sig val x : int val y : t type t data t = A structure M : S end", "[sig [val:4 x {int}] [val:16 y {t}] [type:26 t] [data:33 t A] [structure:44 M S]]"},
	}
}

func TestP701Nodes(t *testing.T) {
	for _, c := range append(declarations(), expressions()...) {
		checkNode(t, c.rule, c.s, c.want)
		// What is one declaration is a unit, too.
		if c.rule == "mdec" {
			checkNode(t, "unit", c.s, c.want)
		}
	}
}

// TestP701Alternatives: the samples, which are told by hand, leave no alternative of chapter 7's grammar out.
func TestP701Alternatives(t *testing.T) {
	type way struct {
		head string
		n    int
	}
	used := map[way]bool{}
	for _, c := range append(declarations(), expressions()...) {
		for _, i := range newChart(c.rule).ended(tokensOf(c.s)) {
			used[way{i.head, i.way}] = true
		}
	}
	for _, head := range headsOf("mdec", "cons", "con", "seal", "mod", "amod", "sig", "asig", "spec") {
		for n, p := range rules[head] {
			if !used[way{head, n}] {
				t.Errorf("no sample of %s = %v", head, p.body)
			}
		}
	}
}

// TestP701Unit: no declaration, and several of every kind.
func TestP701Unit(t *testing.T) {
	for _, s := range []string{"", " ", "\n\t\r ", "(**)", " (* val x = 1 *) (* (* *) *)\n"} {
		checkNode(t, "unit", s, "")
		for _, rule := range []string{"mod", "sig", "mdec"} {
			checkError(t, rule, s, len(s), api.ErrSyntax)
		}
	}
	long := strings.Join([]string{
		"val x = 1", "fun f x = x", "type t = int", "data d = A | B of t", "structure M = struct val y = 1 end", "signature S = sig val y : int end", "functor F(X : S) = X",
		"functor G(X : S) :> S = struct val y = X.y end", "signature T = S", "structure N : S = F(M)", "data e = C", "type u = N.t", "fun g x y = M.y", "val z = x",
	}, "\n")
	checkNode(t, "unit", long, "[val:0 x {1}] [fun:10 f x {x}] [type:22 t {int}] [data:35 d A B{t}] [structure:55 M [struct [val:76 y {1}]]] [signature:90 S [sig [val:108 y {int}]]] [functor:124 F X S X] "+
		"[functor:145 G X S [:> [struct [val:176 y {X.y}]] S]] [signature:192 T S] [structure:208 N [: [@F M] S]] [data:231 e C] [type:242 u {N.t}] [fun:255 g x y {M.y}] [val:271 z {x}]")
	// Nothing stands between two declarations, and no blank has to.
	checkNode(t, "unit", "type t=(int)val x=(1)structure M=F(N)data d=A of(int)type u=t", "[type:0 t {int}] [val:12 x {1}] [structure:21 M [@F N]] [data:37 d A{int}] [type:53 u {t}]")
	checkNode(t, "unit", "structure A = B structure A = B", "[structure:0 A B] [structure:16 A B]")
}

// TestP701Dec: just one declaration.
func TestP701Dec(t *testing.T) {
	checkError(t, "mdec", "val x = 1 val y = 2", 10, api.ErrSyntax)
	checkError(t, "mdec", "type t = int type u = t", 13, api.ErrSyntax)
	checkError(t, "mdec", "structure A = B  structure C = D", 17, api.ErrSyntax)
	checkError(t, "mdec", "signature S = sig end functor F(X : S) = X", 22, api.ErrSyntax)
	checkError(t, "mdec", "data t = A (* *) data u = B", 17, api.ErrSyntax)
	checkError(t, "mdec", "x", 0, api.ErrSyntax)
	checkError(t, "mdec", " M", 1, api.ErrSyntax)
	checkError(t, "mdec", "end", 0, api.ErrSyntax)
	checkError(t, "mdec", "struct end", 0, api.ErrSyntax)
}

// TestP701Examples: the chapter's, told as api tells them.
func TestP701Examples(t *testing.T) {
	integer := api.Ty{Kind: api.YCon, Path: []string{"int"}}
	inner := api.Mod{Kind: api.MStruct, Decs: []api.Dec{{Kind: api.DType, At: 39, Name: "t", Tys: []api.Ty{integer}}}}
	asked := api.Sig{Kind: api.SSig, Specs: []api.Spec{{Kind: api.CType, At: 19, Name: "t"}}}
	sealed := api.Mod{Kind: api.MSeal, Mods: []api.Mod{inner}, Sigs: []api.Sig{asked}}
	want := []api.Dec{{Kind: api.DStr, Name: "M", Mods: []api.Mod{sealed}}}
	if l, at, e := parsemod.Unit("structure M :> sig type t end = struct type t = int end"); !alike(l, want) || at != 0 || e != api.OK {
		t.Errorf("Unit: %s, %d, %v", shown(l), at, e)
	}
	if l, at, e := parsemod.Unit(""); len(l) != 0 || at != 0 || e != api.OK {
		t.Errorf("Unit of nothing: %s, %d, %v", shown(l), at, e)
	}
	app := api.Mod{Kind: api.MApp, Path: []string{"F"}, Mods: []api.Mod{{Kind: api.MStruct}}}
	if m, at, e := parsemod.Mod("F(struct end)"); !alike(m, app) || at != 0 || e != api.OK {
		t.Errorf("F(struct end): %s, %d, %v", shown(m), at, e)
	}
	s := api.Sig{Kind: api.SPath, Path: []string{"S"}}
	asc := api.Mod{Kind: api.MAsc, Mods: []api.Mod{{Kind: api.MPath, Path: []string{"M", "N"}}}, Sigs: []api.Sig{s}}
	if m, at, e := parsemod.Mod("M.N : S"); !alike(m, asc) || at != 0 || e != api.OK {
		t.Errorf("M.N : S: %s, %d, %v", shown(m), at, e)
	}
	first := api.Sig{Kind: api.SWhere, Sigs: []api.Sig{s}, Path: []string{"t"}, Tys: []api.Ty{integer}}
	both := api.Sig{Kind: api.SWhere, Sigs: []api.Sig{first}, Path: []string{"M", "u"}, Tys: []api.Ty{{Kind: api.YCon, Path: []string{"bool"}}}}
	if g, at, e := parsemod.Sig("S where type t = int where type M.u = bool"); !alike(g, both) || at != 0 || e != api.OK {
		t.Errorf("where type twice: %s, %d, %v", shown(g), at, e)
	}
	checkError(t, "unit", "val x 1", 6, api.ErrSyntax)
	checkError(t, "unit", "structure m = M", 10, api.ErrSyntax)
}

// TestP701Syntax: for each rule the first token that can't go on; the mark ^ in a text stands just ahead of it, or at the end.
func TestP701Syntax(t *testing.T) {
	texts := map[string][]string{
		"unit": {
			"^x", "^1", "^A", "^'a", "^;", "^=", "^(", "^)", "^end", "^in", "^struct end", "^sig end", "^let in M end", "^where", "^M : S", "^int", "^fn x => x",
			"val x = 1 ^;", "val x = 1 ^;val y = 1", "val x = 1 ^end", "val x = 1 ^in", "val x ^1", "val x = ^val y = 1", "val x = 1 val^", "val x = 1 fun f ^= 1", "fun f x = 1 ^)", "val ^X = 1", "type t = int ^int", "type t = int ^= int", "type t = int ^x",
			"data t = A ^x", "data t = A ^;", "structure A = B ^C", "structure A = B ^;", "signature S = T ^U", "signature S = T ^: U", "signature S = T ^:> U", "signature S = T ^(U)", "functor F(X : S) = X ^Y", "structure A = B val x = 1 ^|", "type t = int structure ^t = M",
		},
		"mdec": {
			"^", "type^", "type ^T = int", "type ^= int", "type ^'a t = int", "type ^int = int", "type t^", "type t ^: int", "type t ^int", "type t =^", "type t = ^=", "type t = A^", "type t = A ^val", "type t = ^1", "type t = ^val", "type t = M^", "type t = M.^", "type t = (int^", "type t = int ->^", "type t ^=> int",
			"data^", "data ^T = A", "data ^= A", "data t^", "data t ^A", "data t ^: A", "data t =^", "data t = ^a", "data t = ^int", "data t = ^of", "data t = |^", "data t = | ^|", "data t = | ^a", "data t = A |^", "data t = A | ^| B", "data t = A | ^b", "data t = A^.B", "data t = A ^B", "data t = A ^int", "data t = A ^(int)", "data t = A of^", "data t = A of ^|", "data t = A of A^", "data t = A of A ^| B", "data t = A of int ^of", "data t = A of int ^B", "data t = A of int | B of^", "data t = A of ^1", "data t = A ^= B", "data t = A of M.^",
			"structure^", "structure ^m = M", "structure ^= M", "structure ^: S = M", "structure ^struct", "structure M^", "structure M^.N = M", "structure M ^M", "structure M ^(X : S) = M", "structure M ^struct end", "structure M =^", "structure M = ^m", "structure M = ^1", "structure M = ^sig end", "structure M = ^=", "structure M = ^:", "structure M = ^val x = 1", "structure M = ^end",
			"structure M :^", "structure M : ^=", "structure M : ^s", "structure M : ^struct end", "structure M : ^(S) = M", "structure M : S^", "structure M : S ^: T = M", "structure M : S ^:> T = M", "structure M :> S ^struct end", "structure M :> S where^", "structure M : S where type t = int^", "structure M : S where type t = int ^: T", "structure M : S where type t ^:> T", "structure M : S =^", "structure M : S = ^sig end", "structure M ^-> S", "structure M ^=> N", "structure M = N :^", "structure M = N : S ^= O", "structure M = N ^= O",
			"signature^", "signature ^s = S", "signature S^", "signature S ^: T", "signature S ^:> T", "signature S ^(X : T)", "signature S^.T = S", "signature S =^", "signature S = ^s", "signature S = ^struct end", "signature S = ^(S)", "signature S = ^(sig end)", "signature S = sig^", "signature S = T where^", "signature S = T ^= U", "signature S = ^let in S end",
			"functor^", "functor ^f (X : S) = M", "functor ^(X : S) = M", "functor F^", "functor F ^= M", "functor F ^: S = M", "functor F ^X : S = M", "functor F^.G(X : S) = M", "functor F(^", "functor F(^)", "functor F(^x : S) = M", "functor F(^: S) = M", "functor F(^struct end) = M", "functor F(X^", "functor F(X ^) = M", "functor F(X ^= S) = M", "functor F(X ^:> S) = M", "functor F(X^.Y : S) = M", "functor F(X :^", "functor F(X : ^) = M", "functor F(X : ^s) = M", "functor F(X : ^(S)) = M", "functor F(X : S^", "functor F(X : S ^, Y : S) = M", "functor F(X : S ^= M", "functor F(X : S ^: T) = M", "functor F(X : S ^(Y : T) = M", "functor F(X : S)^", "functor F(X : S) ^(Y : S) = M", "functor F(X : S) ^M", "functor F(X : S) ^struct end", "functor F(X : S) :^", "functor F(X : S) : ^= M", "functor F(X : S) : T^", "functor F(X : S) : T ^: U = M", "functor F(X : S) :> T ^(M)", "functor F(X : S) : T =^", "functor F(X : S) =^", "functor F(X : S) = ^x", "functor F(X : S) = ^)", "functor F(X : S where type t = int^", "functor F(X : S where ^t = int) = M",
		},
		"mod": {
			"^", "^m", "^)", "^1", "^:", "^:> S", "^sig end", "^end", "^in", "^val x = 1", "^=", "^.", "^functor", "^type", "^_",
			"M.^", "M.^n", "M.^1", "M.^(N)", "M.^struct end", "M.^.N", "M ^N", "M ^n", "M ^struct end", "M ^= N", "M ^)", "M ^where type t = int", "M ^;", "M ^, N", "M ^end", "M.N.^", "M.N ^O",
			"F(^", "F(^)", "F(^m)", "F(X : S) ^= M", "F(^val x = 1)", "F(M^", "F(M ^N)", "F(M^, N)", "F(M ^= N)", "F(M) ^(N)", "F(M)^(N)(O)", "F(M) ^N", "F(M)^.N", "F(M) ^)", "F(M)^(N", "F(G(M)^", "F(G(M) ^(N))", "F((M)^", "F((M) ^(N))",
			"(^", "(^)", "(^m)", "(M^", "(M ^N)", "(M ^, N)", "(M)^)", "(M) ^(N)", "(F)^(M)", "(M)^.N", "(M) ^N", "((M)^", "(M : ^)", "(M : S^", "(M :> S ^S)", "(^: S)", "(F(M)^",
			"struct^", "struct ^x end", "struct ^M end", "struct ^in end", "struct ^; end", "struct ^struct end end", "struct ^) end", "struct end ^end", "struct end ^(M)", "struct end ^struct", "struct end^.M", "struct val^", "struct val x = 1^", "struct val x = 1 ^in", "struct val x = 1 ^; end", "struct val x = ^end", "struct type t ^end", "struct data t = ^end", "struct structure M ^end", "struct structure M = ^end", "struct structure M : S ^end", "struct signature S ^end", "struct functor F ^end", "struct val x : ^end", "struct val ^end",
			"let^", "let ^M in M end", "let ^end", "let in^", "let in ^end", "let in ^m end", "let in ^val x = 1 end", "let in M^", "let in M ^N end", "let in M ^in", "let in M ^) end", "let in M end ^end", "let in M end ^(N)", "let type t = int^", "let type t = int ^end", "let val x = 1 M^", "let val x = M^", "let val x = M ^end", "let val x : t = M ^; in M end", "let in M : ^end", "let in ^sig", "let structure M = N ^N", "let in let in M end^",
			"M :^", "M : ^:", "M : ^s", "M : ^struct end", "M : ^(S)", "M : ^1", "M : S ^T", "M : S ^(N)", "M : S ^= N", "M : S ^)", "M : S :^", "M : S :> ^:> T", "M : S.^", "M : S.^t", "M :> sig^", "M :> sig end ^end", "M : S where^", "M : S where type t = int ^= N", "M : S where type t = int ^t", "M ^-> S", "M ^=> S",
		},
		"sig": {
			"^", "^s", "^)", "^(S)", "^1", "^struct end", "^let in S end", "^where type t = int", "^: S", "^end", "^val x : int", "^=", "^type",
			"S.^", "S.^s", "S.^sig end", "S ^T", "S ^(T)", "S ^: T", "S ^:> T", "S ^= T", "S ^)", "S ^end", "S ^type t = int", "S.T.^", "S.T ^t", "S ^and",
			"S where^", "S where ^t = int", "S where ^val x : int", "S where ^where", "S where ^structure M = N", "S where type^", "S where type ^= int", "S where type ^int = int", "S where type ^'a", "S where type T^", "S where type T ^= int", "S where type T.^", "S where type T.^= int", "S where type T.^int", "S where type T.U ^= int", "S where type t^", "S where type t^.u = int", "S where type t ^: int", "S where type t ^int", "S where type t =^", "S where type t = ^=", "S where type t = ^where", "S where type t = A^", "S where type t = M^", "S where type t = int ^type u = int", "S where type t = int ^: S", "S where type t = int ^, u = int", "S where type t = int where^", "S where type t = int where type^", "S where type t = int where type u = ^)", "S where type t = int ^= int", "S where type t ^:> int", "S where type ^(t) = int",
			"sig^", "sig ^x end", "sig ^S end", "sig ^; end", "sig ^) end", "sig ^sig end end", "sig ^in end", "sig end ^end", "sig end ^S", "sig end^.S", "sig end ^(S)", "sig ^fun f x : int end", "sig ^fun f : int end", "sig ^signature S = T end", "sig ^functor F(X : S) : T end", "sig ^fun f x = x end", "sig ^struct end end", "sig ^where type t = int end",
			"sig val^", "sig val ^X : int end", "sig val ^: int end", "sig val ^end", "sig val x^", "sig val x ^= 1 end", "sig val x ^int end", "sig val x ^y : int end", "sig val x ^:> int end", "sig val x ^end", "sig val x :^", "sig val x : ^end", "sig val x : ^1 end", "sig val x : ^= end", "sig val x : int^", "sig val x : int ^= 1 end", "sig val x : int ^; end", "sig val x : int ^, end", "sig val x : M ^end", "sig val x : M.^end", "sig val x : int ^x end", "sig val x : int -> ^val", "sig val x : (int ^end", "sig val x : int ^fun",
			"sig type^", "sig type ^T end", "sig type ^end", "sig type ^= int end", "sig type t^", "sig type t ^: int end", "sig type t ^int end", "sig type t ^u end", "sig type t ^; end", "sig type t =^", "sig type t = ^end", "sig type t = A ^end", "sig type t = ^type u end", "sig type t = int^", "sig type t = int ^= int end", "sig type t ^T end", "sig type t ^| end",
			"sig data^", "sig data ^T = A end", "sig data ^end", "sig data t^", "sig data t ^end", "sig data t ^: A end", "sig data t =^", "sig data t = ^end", "sig data t = ^a end", "sig data t = |^", "sig data t = | ^end", "sig data t = A^", "sig data t = A ^B end", "sig data t = A |^", "sig data t = A | ^end", "sig data t = A of^", "sig data t = A of ^end", "sig data t = A of int ^of",
			"sig structure^", "sig structure ^m : S end", "sig structure ^end", "sig structure M^", "sig structure M^.N : S end", "sig structure M ^= N end", "sig structure M ^:> S end", "sig structure M ^end", "sig structure M ^S end", "sig structure M :^", "sig structure M : ^end", "sig structure M : ^s end", "sig structure M : ^struct end end", "sig structure M : ^(S) end", "sig structure M : S^", "sig structure M : S ^= N end", "sig structure M : S ^: T end", "sig structure M : S ^:> T end", "sig structure M : S where^", "sig structure M : S where ^end", "sig structure M : sig^", "sig structure M : sig end^", "sig structure M : S ^(T) end",
		},
	}
	for rule, list := range texts {
		for _, marked := range list {
			at := strings.Index(marked, "^")
			s := marked[:at] + marked[at+1:]
			checkError(t, rule, s, at, api.ErrSyntax)
			checkPlace(t, rule, s)
		}
	}
}

// TestP701Words: a reserved word is no name, whatever stands around it.
func TestP701Words(t *testing.T) {
	heads := strings.Fields("val fun type data structure signature functor")
	for _, w := range names.Words() {
		for _, head := range heads {
			checkError(t, "mdec", head+" "+w, len(head)+1, api.ErrSyntax)
		}
		checkError(t, "mdec", "functor F("+w, 10, api.ErrSyntax)
		checkError(t, "mod", "M."+w, 2, api.ErrSyntax)
		checkError(t, "sig", "S."+w, 2, api.ErrSyntax)
		checkError(t, "sig", "S where type "+w, 13, api.ErrSyntax)
		checkError(t, "sig", "sig val "+w, 8, api.ErrSyntax)
		checkError(t, "mdec", "data t = A | "+w, 13, api.ErrSyntax)
	}
}

// TestP701Lex: what Lex tells is told ahead of all others, with its place.
func TestP701Lex(t *testing.T) {
	long := strings.Repeat("A.", 20)
	for _, c := range []struct {
		s  string
		at int
		e  api.Errno
	}{
		{"#", 0, api.ErrToken}, {") ) ? #", 4, api.ErrToken}, {"x y (* ", 4, api.ErrToken}, {") 'A", 2, api.ErrToken}, {"val x = \xff", 8, api.ErrToken}, {"structure A = B (* (* *)", 16, api.ErrToken},
		{") " + strings.Repeat("a", 33), 2, api.ErrName}, {"type t = '" + strings.Repeat("a", 32), 9, api.ErrName}, {"structure " + strings.Repeat("A", 33), 10, api.ErrName},
		{"= 9223372036854775808", 2, api.ErrArg}, {"val x = 9223372036854775808", 8, api.ErrArg},
		{long + "A 9223372036854775808", 42, api.ErrArg}, {long + "A #", 42, api.ErrToken},
		{strings.Repeat(" ", 4097), 0, api.ErrBig}, {"#" + strings.Repeat(" ", 4096), 0, api.ErrBig}, {") " + strings.Repeat("1 ", 1024), 2 + 2*1023, api.ErrBig},
		{strings.Repeat("M:", 600) + "(* ", 1024, api.ErrBig},
	} {
		for _, rule := range faces() {
			checkError(t, rule, c.s, c.at, c.e)
		}
	}
	most := strings.Repeat(" ", api.MaxText-len("type t = int")) + "type t = int"
	checkNode(t, "unit", most, "[type:4084 t {int}]")
	checkError(t, "unit", most+" ", 0, api.ErrBig)
}

// pathOf: a path of so many names.
func pathOf(n int, last string) string { return strings.Repeat("M.", n-1) + last }

// TestP701Paths: a path of MaxPath names is taken, one of more is told at its first name, if no syntax error stands ahead of that.
func TestP701Paths(t *testing.T) {
	for n := 1; n <= api.MaxPath; n++ {
		low, high := pathOf(n, "t"), pathOf(n, "A")
		checkNode(t, "mod", high, high)
		checkNode(t, "mod", high+"(M)", "[@"+high+" M]")
		checkNode(t, "sig", high, high)
		checkNode(t, "sig", "S where type "+low+" = "+low, "[where "+low+" S {"+low+"}]")
		checkNode(t, "mdec", "val x = "+low+" "+high, "[val:0 x {"+low+" "+high+"}]")
	}
	low, high, ends := pathOf(9, "t"), pathOf(9, "A"), pathOf(8, "A")
	for _, c := range []struct {
		rule, s string
		at      int
		e       api.Errno
	}{
		{"mod", high, 0, api.ErrBig}, {"mod", high + "(M)", 0, api.ErrBig}, {"mod", "F(" + high + ")", 2, api.ErrBig}, {"mod", "M : " + high, 4, api.ErrBig}, {"mod", "(" + high + ")", 1, api.ErrBig}, {"mod", pathOf(30, "A"), 0, api.ErrBig},
		{"mod", "struct structure A = " + high + " end", 21, api.ErrBig}, {"mod", "let in " + high + " end", 7, api.ErrBig}, {"mod", "let val x = " + low + " in M end", 12, api.ErrBig},
		{"sig", high, 0, api.ErrBig}, {"sig", "S where type " + low + " = int", 13, api.ErrBig}, {"sig", "S where type t = " + low, 17, api.ErrBig}, {"sig", "sig val x : " + low + " end", 12, api.ErrBig}, {"sig", "sig structure M : " + high + " end", 18, api.ErrBig},
		{"mdec", "type t = " + low, 9, api.ErrBig}, {"mdec", "data t = A of " + low, 14, api.ErrBig}, {"mdec", "structure M = " + high, 14, api.ErrBig}, {"mdec", "structure M : " + high + " = N", 14, api.ErrBig}, {"mdec", "signature S = " + high, 14, api.ErrBig},
		{"mdec", "functor F(X : " + high + ") = M", 14, api.ErrBig}, {"mdec", "functor F(X : S) :> " + high + " = M", 20, api.ErrBig}, {"mdec", "functor F(X : S) = " + high, 19, api.ErrBig}, {"mdec", "val x = " + high, 8, api.ErrBig},
		{"unit", "val x = 1 val y = " + low, 18, api.ErrBig}, {"unit", "structure A = B structure C = " + high, 30, api.ErrBig},
		// Ahead of a syntax error, and of two paths the first.
		{"mod", high + " )", 0, api.ErrBig}, {"mod", high + "(", 0, api.ErrBig}, {"mod", high + "(M)(N)", 0, api.ErrBig}, {"mod", high + " N", 0, api.ErrBig}, {"mod", high + " : " + high, 0, api.ErrBig}, {"sig", high + " where", 0, api.ErrBig}, {"sig", "S where type " + low, 13, api.ErrBig}, {"sig", "S where type " + low + " : int", 13, api.ErrBig}, {"mod", "F(" + high, 2, api.ErrBig},
		{"unit", "structure A = " + high + " structure a", 14, api.ErrBig}, {"unit", "type t = " + low + " structure A = " + high + " )", 9, api.ErrBig},
		// Behind a syntax error.
		{"mod", "m " + high, 0, api.ErrSyntax}, {"sig", "sig ; structure M : " + high, 4, api.ErrSyntax}, {"unit", "val x = ) type t = " + low, 8, api.ErrSyntax}, {"mdec", "structure m = " + high, 10, api.ErrSyntax},
		// At the place of one.
		{"mod", "M " + high, 2, api.ErrSyntax}, {"sig", "S " + high, 2, api.ErrSyntax}, {"unit", high, 0, api.ErrSyntax}, {"mdec", high, 0, api.ErrSyntax}, {"mod", "struct " + high, 7, api.ErrSyntax}, {"sig", "sig " + high, 4, api.ErrSyntax}, {"sig", "S where " + low, 8, api.ErrSyntax}, {"mdec", "type " + high, 5, api.ErrSyntax}, {"mdec", "type t " + high, 7, api.ErrSyntax},
		// Where one name alone can stand the point is wrong.
		{"mdec", "structure " + high + " = M", 11, api.ErrSyntax}, {"mdec", "signature " + high + " = S", 11, api.ErrSyntax}, {"mdec", "functor " + high + "(X : S) = M", 9, api.ErrSyntax}, {"mdec", "functor F(" + high + " : S) = M", 11, api.ErrSyntax}, {"mdec", "data t = " + high, 10, api.ErrSyntax}, {"sig", "sig structure " + high + " : S end", 15, api.ErrSyntax},
		// A syntax error within: behind MaxPath names, behind one more, and where the last name is none of the right sort.
		{"mod", ends + ".", 16, api.ErrSyntax}, {"mod", ends + ".(", 16, api.ErrSyntax}, {"mod", ends + ".a", 16, api.ErrSyntax}, {"mod", ends + ".struct", 16, api.ErrSyntax}, {"mod", pathOf(8, "a"), 14, api.ErrSyntax}, {"mod", high + ".", 0, api.ErrBig}, {"mod", high + ".a", 0, api.ErrBig}, {"mod", high + "..", 0, api.ErrBig},
		{"sig", ends + ".", 16, api.ErrSyntax}, {"sig", ends + ".a", 16, api.ErrSyntax}, {"sig", pathOf(8, "a"), 14, api.ErrSyntax}, {"sig", high + ".", 0, api.ErrBig}, {"sig", high + ".sig", 0, api.ErrBig},
		{"sig", "S where type " + ends, 28, api.ErrSyntax}, {"sig", "S where type " + ends + " = int", 29, api.ErrSyntax}, {"sig", "S where type " + ends + ".", 29, api.ErrSyntax}, {"sig", "S where type " + ends + ".int", 29, api.ErrSyntax}, {"sig", "S where type " + high + " = int", 13, api.ErrBig}, {"sig", "S where type " + high, 13, api.ErrBig}, {"sig", "S where type " + high + ".", 13, api.ErrBig}, {"sig", "S where type " + pathOf(8, "t") + ".t = int", 28, api.ErrSyntax},
	} {
		checkError(t, c.rule, c.s, c.at, c.e)
		checkPlace(t, c.rule, c.s)
	}
}

// checkPlace: has a text the place and the error that the grammar gives it?
func checkPlace(t *testing.T, rule, s string) {
	t.Helper()
	at, e := expect(rule, s)
	checkAnswer(t, rule, s, at, e)
}

// checkAnswer: is that the place and the error, or is there a node?
func checkAnswer(t *testing.T, rule, s string, at int, e api.Errno) {
	t.Helper()
	if e != api.OK {
		checkError(t, rule, s, at, e)
		return
	}
	node, at, e := call(rule, s)
	if at != 0 || e != api.OK || rule != "unit" && reflect.DeepEqual(node, zero(rule)) {
		t.Errorf("%s of %q: %s, %d, %v, not OK", rule, brief(s), brief(shown(node)), at, e)
	}
}
