package modules_test

import (
	"fmt"
	"slices"
	"strings"
	"testing"

	"wafer/api"
	"wafer/env"
	"wafer/kernel"
	"wafer/modules"
	"wafer/sigs"
	"wafer/tree"
)

// TestP1902Kinds: each kind of structure expression.
func TestP1902Kinds(t *testing.T) {
	w := placed(world())
	for _, c := range []struct{ text, want string }{
		// MPath
		{"A", "type t = #1; val f: #1 -> int; val x: #1 | 0 to 50"},
		{"B.C", "type u = #3; type v = #3; val g: 'a -> 'a * #3; val p: #3 * #2 | 0 to 50"},
		{"NO", "ErrUnbound"},
		{"B.NO", "ErrUnbound"},
		{"B.H", "ErrUnbound"},
		{"F", "ErrUnbound"},
		{"S", "ErrUnbound"},
		// MStruct
		{"struct end", "| 0 to 50"},
		{"struct data t = P type u = t val x = P end", "data t = ?1: P; type u = ?1; val x: ?1 | 1 to 51"},
		{"struct val x = 1 val y = no end", "ErrUnbound"},
		{"struct val x = 1 val x = no end", "ErrTwice"},
		// MApp
		{"F(A)", "data w = ?1: N | K of #1; val p: ?1; val q: int | 1 to 51"},
		{"F(struct type t = bool val x = true fun f y = if y then 1 else 2 end)", "data w = ?1: N | K of bool; val p: ?1; val q: int | 1 to 51"},
		{"F(struct data t = P val x = P fun f y = 1 end)", "data w = ?1: N | K of ?2; val p: ?1; val q: int | 2 to 52"},
		{"F(struct data z = Z data t = P val x = P fun f y = 1 data a = R end)", "data w = ?1: N | K of ?2; val p: ?1; val q: int | 2 to 54"},
		{"F((A))", "data w = ?1: N | K of #1; val p: ?1; val q: int | 1 to 51"},
		{"F(A :> S)", "data w = ?1: N | K of ?2; val p: ?1; val q: int | 2 to 52"},
		{"F(A : S)", "data w = ?1: N | K of #1; val p: ?1; val q: int | 1 to 52"},
		{"B.H(A)", "data t = ?1: T of #1 * #3; val z: ?1 | 1 to 51"},
		{"B.H(B.H(B.H(A) : sig type t val z : t end))", "ErrMatch"},
		{"B.H(let structure X = B.H(A) in struct type t = X.t val x = X.z end end)", "data t = ?1: T of ?2 * #3; val z: ?1 | 2 to 52"},
		{"G(struct structure Y = A val id = id end)", "type l = #0; val r: #1; structure Y;   type t = #1;   val f: #1 -> int;   val x: #1 | 0 to 50"},
		{"NO(A)", "ErrUnbound"},
		{"A(A)", "ErrUnbound"},
		{"B.C(A)", "ErrUnbound"},
		{"NO(NO)", "ErrUnbound"},
		{"F(struct val x = x + true end)", "ErrUnbound"},
		{"F(struct val x = 1 val x = 1 end)", "ErrTwice"},
		{"F(B)", "ErrMatch"},
		{"F(struct type t = int val x = 1 val f = 1 end)", "ErrMatch"},
		{"G(struct structure Y = A fun id x = x + 1 end)", "ErrMatch"},
		// MAsc, MSeal
		{"A : S", "type t = #1; val f: #1 -> int; val x: #1 | 0 to 51"},
		{"A :> S", "type t = ?1; val f: ?1 -> int; val x: ?1 | 1 to 51"},
		{"A :> S where type t = A.t", "type t = #1; val f: #1 -> int; val x: #1 | 0 to 51"},
		{"A : sig val x : A.t end", "val x: #1 | 0 to 50"},
		{"A :> sig type t end", "type t = ?1 | 1 to 51"},
		{"A :> S :> S : S", "type t = ?1; val f: ?1 -> int; val x: ?1 | 1 to 53"},
		{"struct data t = P data u = Q of t val x = P end : sig type t val x : t end", "type t = ?1; val x: ?1 | 1 to 53"},
		{"struct data t = P data u = Q of t val x = Q P end : sig type u end", "type u = ?1 | 1 to 53"},
		{"struct data t = P data u = Q of t val x = Q P end : sig end", "| 0 to 52"},
		{"struct data t = P data u = Q of t val x = Q P end :> sig data t = P data u = Q of t end", "data t = ?1: P; data u = ?2: Q of ?1 | 2 to 54"},
		{"struct data t = P data u = Q of t val x = Q P end :> sig data t = Q end", "ErrMatch"},
		{"B :> sig data d = D | E of A.t structure C : sig type u val p : u * d end val y : d end", "data d = ?1: D | E of #1; val y: ?1; structure C;   type u = ?2;   val p: ?2 * ?1 | 2 to 52"},
		{"NO : ALSO", "ErrUnbound"},
		{"struct val x = true + 1 end : NO", "ErrType"},
		{"A : NO", "ErrUnbound"},
		{"A :> sig type t type t end", "ErrTwice"},
		{"A : sig val x : no end", "ErrUnbound"},
		{"A :> S where type t = int", "ErrMatch"},
		{"A : sig val x : int end", "ErrMatch"},
		// MLet
		{"let in A end", "type t = #1; val f: #1 -> int; val x: #1 | 0 to 50"},
		{"let data t = P in struct val x = P end end", "val x: ?1 | 1 to 51"},
		{"let data t = P data u = Q of t val y = Q P in struct val x = P val z = one end end", "val x: ?1; val z: int | 1 to 52"},
		{"let data t = P in struct val x = 1 end end", "val x: int | 0 to 51"},
		{"let data t = P in struct data t = Q val x = (P, Q) end end", "data t = ?1: Q; val x: ?2 * ?1 | 2 to 52"},
		{"let structure X = struct data t = P end in X end", "data t = ?1: P | 1 to 51"},
		{"let structure A = B signature S = sig end in A.C : S end", "| 0 to 50"},
		{"let functor F (X : sig end) = struct data t = P end in F(F(F(A))) end", "data t = ?1: P | 1 to 54"},
		{"let val x = 1 in let val y = x in struct val z = x + y end end end", "val z: int | 0 to 50"},
		{"let val x = 1 val x = 2 in A end", "ErrTwice"},
		{"let val x = no in NO end", "ErrUnbound"},
		{"let val x = 1 + true in NO end", "ErrType"},
		{"let val x = 1 in NO end", "ErrUnbound"},
		{"let val x = 1 in struct val y = x val y = 2 end end", "ErrTwice"},
	} {
		same(t, c.text, w.mod(t, mod(c.text), 50), c.want)
	}
}

// TestP1902Numbers: ErrArg as of Decs ahead of all, and then tree.RightMod's error.
func TestP1902Numbers(t *testing.T) {
	w := placed(world())
	deep := at("A")
	for range api.MaxDepth {
		deep = applied("NO", deep)
	}
	wrong := []api.Mod{{}, {Kind: 7}, at("x"), at(""), {Kind: api.MStruct, Decs: []api.Dec{{}}}, applied("F.f", at("NO")), behind(api.MAsc, at("NO"), api.Sig{}), letMod([]api.Dec{dval("x", id("no")), {}}, at("A")), deep}
	for _, next := range edges() {
		for _, m := range append(slices.Clone(wrong), at("A"), at("NO"), structure(), mod("A :> S"), mod("let in A end")) {
			got := w.mod(t, m, next)
			want := tree.RightMod(m)
			switch {
			case next < 0 || next > 1<<30:
				same(t, fmt.Sprint(next, tell(m)), got, "ErrArg")
			case want != api.OK:
				same(t, fmt.Sprint(next, tell(m)), got, code(want))
			}
		}
	}
	same(t, "no name", w.mod(t, at("x"), 50), "ErrName")
	same(t, "too deep", w.mod(t, deep, 50), "ErrDeep")
	// Declarations have at most MaxNodes nodes, each list by itself.
	vals := slices.Repeat([]api.Dec{dval("x", num(1))}, api.MaxNodes/2)
	most, more := structure(vals...), structure(append(vals, dval("x", num(1)))...)
	for _, c := range []struct {
		m    api.Mod
		want string
	}{
		{most, "ErrTwice"},
		{more, "ErrBig"},
		{applied("NO", more), "ErrUnbound"},
		{applied("F", more), "ErrBig"},
		{behind(api.MSeal, more, api.Sig{Kind: api.SPath, Path: split("NO")}), "ErrBig"},
		{letMod(more.Decs, at("NO")), "ErrBig"},
		{letMod(nil, more), "ErrBig"},
		{letMod(nil, most), "ErrTwice"},
		{structure(dstr("X", most)), "ErrBig"},
		// What is called with a number behind that has an error of its own.
		{mod("let data t = P in A end"), "type t = #1; val f: #1 -> int; val x: #1 | 0 to 51"},
	} {
		same(t, brief(tell(c.m)), w.mod(t, c.m, 50), c.want)
	}
	for _, text := range []string{"let data t = P in A end", "A :> S : S", "struct data t = P end : S", "let data t = P in NO end"} {
		same(t, text, w.mod(t, mod(text), 1<<30), "ErrArg")
	}
	for _, text := range []string{"A :> S", "struct data t = P end", "F(A)", "F(struct data t = P val x = P val f = fn _ => 1 end)"} {
		if got := w.mod(t, mod(text), 1<<30); !strings.Contains(got, " to 10737418") {
			t.Errorf("%s: %s", text, got)
		}
	}
}

// TestP1902Big: MLet's structure, with its stamps, has at most MaxStr nodes; what a path tells has any number.
func TestP1902Big(t *testing.T) {
	w := placed(world())
	l := full(api.MaxStr - 3)
	for _, c := range []struct {
		m    api.Mod
		want string
	}{
		{letMod(unit("data a = P"), structure(append(l, dval("x", num(1)))...)), "| 0 to 51"},
		{letMod(unit("data a = P"), structure(append(l, dtype("x", ycon("a")))...)), "| 1 to 51"},
		{letMod(unit("data a = P data b = Q"), structure(append(l, dtype("x", yboth(api.YPair, ycon("a"), ycon("b"))))...)), "ErrBig"},
		{letMod(unit("data a = P data b = Q"), structure(append(full(api.MaxStr-5), dtype("x", yboth(api.YPair, ycon("a"), ycon("b"))))...)), "ErrBig"},
		{letMod(unit("data a = P data b = Q"), structure(append(full(api.MaxStr-7), dtype("x", yboth(api.YPair, ycon("a"), ycon("b"))))...)), "| 2 to 52"},
		{letMod(nil, letMod(unit("data a = P"), structure(append(full(api.MaxStr-5), dtype("x", ycon("a")))...))), "| 1 to 51"},
		{letMod(unit("data a = P"), structure(append(full(api.MaxStr-5), unit("data b = Q of a")...)...)), "ErrBig"},
	} {
		if got := w.mod(t, c.m, 50); !strings.HasSuffix(got, c.want) {
			t.Errorf("%s, want %s", brief(got), c.want)
		}
	}
	e := w.e
	var great api.Str
	for i := range api.MaxStr {
		great.Vals = append(great.Vals, val(fmt.Sprint("x", i), integer()))
	}
	e.Subs = append(slices.Clip(e.Subs), env.Sub{Name: "GREAT", S: great, X: v("GREAT")})
	g := placed(e)
	if got := g.mod(t, at("GREAT"), 5); !strings.HasSuffix(got, "| 0 to 5") {
		t.Errorf("%s", brief(got))
	}
	same(t, "great", g.mod(t, mod("GREAT : sig val x1 : int end"), 5), "val x1: int | 0 to 5")
	same(t, "great", g.mod(t, mod("let in GREAT end"), 5), "ErrBig")
	same(t, "great", g.decs(t, unit("structure X = GREAT"), 5), "ErrBig at 0")
}

// made: what Mod makes of a text in the world, where it is accepted.
func (p spot) made(t *testing.T, text string, next int) modules.Made {
	t.Helper()
	m, err := modules.Mod(p.e, mod(text), next)
	if err != api.OK {
		t.Fatalf("%s: %s", text, code(err))
	}
	return m
}

// apply, seal: what Apply and Seal answer, held against the chapter's words, and taken by the kernel.
func (p spot) apply(t *testing.T, f env.Fun, arg modules.Made) string {
	t.Helper()
	m, err := modules.Apply(f, arg)
	want, code1 := plainApply(f.F, plain{arg.A, arg.Next})
	if err != code1 {
		t.Fatalf("%s: %s, want %s", brief(lines(arg.A)), code(err), code(code1))
	}
	if err == api.OK {
		p.alike(t, lines(arg.A), m, want)
	}
	return answerMod(m, err)
}

func (p spot) seal(t *testing.T, m modules.Made, a api.Abs, hide bool) string {
	t.Helper()
	is, err := modules.Seal(m, a, hide)
	want, code1 := plainSeal(plain{m.A, m.Next}, a, hide)
	if err != code1 {
		t.Fatalf("%s behind %s: %s, want %s", brief(lines(m.A)), brief(lines(a)), code(err), code(code1))
	}
	if err == api.OK {
		p.alike(t, lines(m.A), is, want)
	}
	return answerMod(is, err)
}

// functor: one of the world's.
func (p spot) functor(path string) env.Fun {
	f, err := p.e.Fun(split(path))
	if err != api.OK {
		panic("no functor: " + path)
	}
	return f
}

// TestP1903Apply: the functor's Res with the types that were found, new stamps from the argument's Next on, and the argument's Stamps.
func TestP1903Apply(t *testing.T) {
	w := placed(world())
	f := w.functor("F")
	for _, c := range []struct{ arg, want string }{
		{"A", "data w = ?1: N | K of #1; val p: ?1; val q: int | 1 to 71"},
		{"struct type t = int val x = 1 val f = fn x => x end", "data w = ?1: N | K of int; val p: ?1; val q: int | 1 to 71"},
		{"struct data t = P val x = P fun f y = 1 end", "data w = ?1: N | K of ?2; val p: ?1; val q: int | 2 to 72"},
		{"struct data s = P data t = Q val x = Q fun f y = 1 end", "data w = ?1: N | K of ?2; val p: ?1; val q: int | 2 to 73"},
		{"struct data s = P type t = int val x = 1 fun f y = 1 end", "data w = ?1: N | K of int; val p: ?1; val q: int | 1 to 72"},
		{"struct type t = int val x = 1 end", "ErrMatch"},
		{"struct type t = int val x = true val f = fn x => 1 end", "ErrMatch"},
	} {
		arg := w.made(t, c.arg, 70)
		arg.Next = max(arg.Next, 70)
		same(t, c.arg, w.apply(t, f, arg), c.want)
	}
	// The argument's stamps come first, in their order, then the new ones in that of Res.
	// Terms may have the names that those who make terms bind.
	h := env.Fun{Name: "H", X: v("argument"), F: api.Fun{
		Stamps: ints(60), Arg: str(typ("t", stamp(60))),
		Res: abs(ints(62, 61, 63), typ("a", stamp(61)), typ("b", stamp(62)), typ("c", stamp(60)), typ("t", pair(stamp(62), stamp(60)))),
	}}
	e := env.Env{Funs: []env.Fun{h}}
	arg := modules.Made{A: abs(ints(46, 45, 44), typ("t", pair(stamp(45), stamp(46)))), X: v("both"), Next: 80}
	p := placed(e)
	p.l = append(p.l, bindOf("both", must(absType(arg.A))))
	same(t, "order", p.apply(t, h, arg), "type a = ?1; type b = ?2; type c = ?3 * ?4; type t = ?2 * (?3 * ?4) | 4 to 83")
	m, err := modules.Apply(h, arg)
	if err != api.OK || tell(m.A.Stamps) != tell(ints(46, 45, 80, 81)) {
		t.Errorf("%s: %v", code(err), m.A.Stamps)
	}
	if got := m.A.S.Types; got[0].T.N != 81 || got[1].T.N != 80 {
		t.Errorf("%v", got)
	}
	// What is put in is not caught by Res' own stamps, nor by what binds within it.
	h.F.Res = abs(ints(46), typ("a", pair(stamp(46), stamp(60))))
	h.F.Res.S.Sigs = []api.SigMember{{Name: "T", A: abs(ints(45), val("x", fn(stamp(45), stamp(60))))}}
	m, err = modules.Apply(h, arg)
	same(t, "caught", answerMod(m, err), "type a = ?1 * (?2 * ?3); signature T;   val x: ?4 -> ?2 * ?3 | 3 to 81")
	if tell(m.A.Stamps) != tell(ints(46, 45, 80)) {
		t.Errorf("%v", m.A.Stamps)
	}
}

// TestP1903Errors: match.Match's error, then match.PutAbs'.
func TestP1903Errors(t *testing.T) {
	great := func(n int) api.Type {
		return must(env.Env{}.Type(wideTy(n, ycon("int"))))
	}
	f := env.Fun{X: v("F"), F: api.Fun{Stamps: ints(1), Arg: str(typ("t", stamp(1)), val("x", pair(stamp(1), integer())))}}
	arg := func(t, x api.Type) modules.Made {
		return modules.Made{A: abs(nil, typ("t", t), val("x", x)), X: v("X"), Next: 20}
	}
	for _, c := range []struct {
		what string
		arg  modules.Made
		res  api.Abs
		want string
	}{
		{"right", arg(great(400), pair(great(400), integer())), abs(nil, val("y", pair(stamp(1), integer()))), "OK"},
		{"what is asked does not fit", arg(great(500), great(500)), abs(nil), "ErrBig"},
		{"lacks", arg(great(499), great(500)), abs(nil), "ErrMatch"},
		{"lacks ahead of Res", arg(great(400), boolean()), abs(nil, val("y", pair(stamp(1), pair(stamp(1), stamp(1))))), "ErrMatch"},
		{"Res does not fit", arg(great(400), pair(great(400), integer())), abs(nil, val("y", pair(stamp(1), stamp(1)))), "ErrBig"},
		{"Res has too much", arg(great(499), pair(great(499), integer())), abs(nil, val("a", stamp(1)), val("b", stamp(1)), val("c", stamp(1)), val("d", stamp(1))), "OK"},
		{"Res has too much", arg(great(499), pair(great(499), integer())), abs(nil, val("a", stamp(1)), val("b", stamp(1)), val("c", stamp(1)), val("d", stamp(1)), val("e", stamp(1))), "ErrBig"},
		{"Res has too much", arg(great(498), pair(great(498), integer())), abs(ints(2, 3), val("a", stamp(1)), val("b", stamp(1)), val("c", stamp(1)), val("d", stamp(1)), val("e", pair(stamp(2), stamp(3)))), "OK"},
	} {
		f.F.Res = c.res
		m, err := modules.Apply(f, c.arg)
		if got := code(err); got != c.want || err != api.OK && tell(m) != tell(modules.Made{}) {
			t.Errorf("%s: %s, want %s", c.what, got, c.want)
		}
	}
	// A path for each stamp, of which one has none.
	f.F.Stamps = ints(1, 2)
	if _, err := modules.Apply(f, arg(integer(), pair(integer(), integer()))); err != api.ErrMatch {
		t.Errorf("%s", code(err))
	}
}

// must: so.
func must[T any](x T, err api.Errno) T {
	if err != api.OK {
		panic(code(err))
	}
	return x
}

// TestP1904Seal: with hide the signature itself, without the types that were found, and the stamps of what was sealed; Next stays.
func TestP1904Seal(t *testing.T) {
	w := placed(world())
	for _, c := range []struct{ m, g, seen, hidden string }{
		{"A", "S", "type t = #1; val f: #1 -> int; val x: #1 | 0 to 90", "type t = ?1; val f: ?1 -> int; val x: ?1 | 1 to 90"},
		{"A", "sig val x : A.t end", "val x: #1 | 0 to 90", "val x: #1 | 0 to 90"},
		{"A", "S where type t = A.t", "type t = #1; val f: #1 -> int; val x: #1 | 0 to 90", "type t = #1; val f: #1 -> int; val x: #1 | 0 to 90"},
		{"A", "S where type t = int", "ErrMatch", "ErrMatch"},
		{"struct data d = P | Q of int val x = Q 1 val y = fn z => z end", "sig type d val x : d val y : int -> int end", "type d = ?1; val x: ?1; val y: int -> int | 1 to 90", "type d = ?1; val x: ?1; val y: int -> int | 1 to 90"},
		{"struct data d = P | Q of int val x = Q 1 data e = R end", "sig data d = P | Q of int end", "data d = ?1: P | Q of int | 1 to 90", "data d = ?1: P | Q of int | 1 to 90"},
		{"struct data d = P | Q of int val x = Q 1 data e = R end", "sig end", "| 0 to 90", "| 0 to 90"},
		{"struct data d = P type t = int * d end", "sig type t type d end", "type d = ?1; type t = int * ?1 | 1 to 90", "type d = ?1; type t = ?2 | 2 to 90"},
		{"struct data d = P type t = int * d end", "sig type d type t = int * d end", "type d = ?1; type t = int * ?1 | 1 to 90", "type d = ?1; type t = int * ?1 | 1 to 90"},
		{"struct data d = P type t = int * d end", "sig type t end", "type t = int * ?1 | 1 to 90", "type t = ?1 | 1 to 90"},
		{"struct data d = P type t = int * d end", "sig type t type d = t end", "ErrMatch", "ErrMatch"},
		{"B", "sig structure C : sig type u val p : u * B.d end end", "structure C;   type u = #3;   val p: #3 * #2 | 0 to 90", "structure C;   type u = ?1;   val p: ?1 * #2 | 1 to 90"},
		{"F(A)", "sig type w val p : w end", "type w = ?1; val p: ?1 | 1 to 90", "type w = ?1; val p: ?1 | 1 to 90"},
		{"A", "sig val no : int end", "ErrMatch", "ErrMatch"},
		{"A", "sig structure A : sig end end", "ErrMatch", "ErrMatch"},
	} {
		m := w.made(t, c.m, 50)
		m.Next = 90
		a, _, err := sigs.Elab(w.e, sig(c.g), 60)
		if err != api.OK {
			t.Fatalf("%s: %s", c.g, code(err))
		}
		same(t, c.m+" : "+c.g, w.seal(t, m, a, false), c.seen)
		same(t, c.m+" :> "+c.g, w.seal(t, m, a, true), c.hidden)
		is, err := modules.Seal(m, a, true)
		if err == api.OK && tell(is.A) != tell(a) {
			t.Errorf("%s :> %s: %s, want the signature itself", c.m, c.g, lines(is.A))
		}
	}
	// Stamps stay in their order; the term may have a name that those who make terms bind.
	m := modules.Made{A: abs(ints(9, 7, 8), typ("a", stamp(7)), typ("b", stamp(8)), typ("c", stamp(9)), val("x", stamp(7))), X: v("argument"), Next: 10}
	p := spot{l: []kernel.Bind{bindOf("argument", must(absType(m.A)))}}
	a := abs(ints(12, 11), typ("a", stamp(11)), typ("c", stamp(12)), val("x", stamp(11)))
	same(t, "order", p.seal(t, m, a, false), "type a = ?1; type c = ?2; val x: ?1 | 2 to 10")
	same(t, "order", p.seal(t, m, a, true), "type a = ?1; type c = ?2; val x: ?1 | 2 to 10")
	if got := must(modules.Seal(m, a, false)); tell(got.A.Stamps) != tell(ints(9, 7)) {
		t.Errorf("%v", got.A.Stamps)
	}
	if got := must(modules.Seal(m, a, true)); tell(got.A.Stamps) != tell(ints(12, 11)) {
		t.Errorf("%v", got.A.Stamps)
	}
	// Put's error: what is asked, with these types, has too much.
	wide := must(env.Env{}.Type(wideTy(500, ycon("int"))))
	m = modules.Made{A: abs(nil, typ("t", wide), val("x", integer())), X: v("M")}
	for _, hide := range []bool{false, true} {
		if got := w.seal(t, m, abs(ints(1), typ("t", stamp(1)), val("x", pair(stamp(1), integer()))), hide); got != "ErrBig" {
			t.Errorf("%v: %s", hide, got)
		}
	}
}

// TestP1904Again: what is sealed may be sealed with the same signature again, with stamps of its own or the same ones.
func TestP1904Again(t *testing.T) {
	w := placed(world())
	for _, g := range []string{"S", "sig type t val x : t end", "sig type t end", "sig end", "S where type t = A.t"} {
		m := w.made(t, "A", 50)
		a, next, _ := sigs.Elab(w.e, sig(g), 60)
		b, _, _ := sigs.Elab(w.e, sig(g), next)
		m.Next = 90
		once := must(modules.Seal(m, a, true))
		for _, again := range []api.Abs{a, b} {
			for _, hide := range []bool{false, true} {
				same(t, g, w.seal(t, once, again, hide), answerMod(once, api.OK))
			}
		}
		seen := must(modules.Seal(m, a, false))
		same(t, g, w.seal(t, seen, b, false), answerMod(seen, api.OK))
		same(t, g, w.seal(t, seen, b, true), answerMod(once, api.OK))
	}
}

// TestP1905Enter: a structure of that name more, the last one.
func TestP1905Enter(t *testing.T) {
	s := str(typ("t", stamp(1)), val("x", stamp(1)))
	for _, e := range []env.Env{{}, world()} {
		for _, name := range []string{"A", "Z", "", "x"} {
			got := modules.Enter(e, name, s, sel("M", v("N")))
			want := copied(e)
			want.Subs = append(want.Subs, env.Sub{Name: name, S: s, X: sel("M", v("N"))})
			if tell(got) != tell(want) {
				t.Errorf("%q: %s, want %s", name, brief(tell(got)), brief(tell(want)))
			}
			found, err := got.Sub([]string{name})
			if err != api.OK || tell(found.S) != tell(s) {
				t.Errorf("%q: %s", name, code(err))
			}
		}
	}
	e := modules.Enter(modules.Enter(env.Env{}, "A", str(val("x", boolean())), v("B")), "A", str(val("x", integer())), v("C"))
	if got, err := e.Val(split("A.x")); err != api.OK || got.S.T.Kind != api.TInt || tell(got.X) != tell(sel("x", v("C"))) {
		t.Errorf("%s: %s", code(err), tell(got))
	}
}

// TestP1908Generative: two applications of one functor to one argument have no stamp of Res in common.
func TestP1908Generative(t *testing.T) {
	w := placed(world())
	for _, path := range []string{"F", "B.H"} {
		f := w.functor(path)
		one := w.made(t, "A", 50)
		first := must(modules.Apply(f, one))
		one.Next = first.Next
		second := must(modules.Apply(f, one))
		if len(first.A.Stamps) == 0 || len(common(first.A.Stamps, second.A.Stamps)) > 0 {
			t.Errorf("%s: %v, %v", path, first.A.Stamps, second.A.Stamps)
		}
		if env.SameAbs(abs(nil, sub("P"), api.SubMember{Name: "Q", S: first.A.S}), abs(nil, sub("P"), api.SubMember{Name: "Q", S: second.A.S})) {
			t.Errorf("%s: they are one", path)
		}
	}
	empty := placed(env.Env{})
	f := "functor F (X : sig type t end) = struct data d = K of X.t type t = X.t end structure A = struct data t = P end structure P = F(A) structure Q = F(A) "
	same(t, "unlike", empty.decs(t, unit(f+"val x = if true then P.K else Q.K"), 0), "ErrType at 4")
	same(t, "alike", empty.decs(t, unit(f+"val x = if true then P.K A.P else P.K (A.P : Q.t)"), 0)[:9], "val x: ?1")
	// Also of functors in functors, and within a functor's own body.
	g := "functor F (X : sig end) = struct functor G (Y : sig end) = struct data d = K end end structure F1 = F(struct end) structure F2 = F(struct end) structure P = F1.G(struct end) structure Q = F1.G(struct end) structure R = F2.G(struct end) "
	same(t, "in one", empty.decs(t, unit(g+"val x = if true then P.K else Q.K"), 0), "ErrType at 6")
	same(t, "in another", empty.decs(t, unit(g+"val x = if true then P.K else R.K"), 0), "ErrType at 6")
	h := "functor F (X : sig end) = struct data d = K end functor G (Y : sig end) = struct structure P = F(Y) structure Q = F(Y) "
	same(t, "within", empty.decs(t, unit(h+"val x = if true then P.K else Q.K end"), 0), "ErrType at 1")
	same(t, "within", empty.decs(t, unit(h+"val x = (P.K, Q.K) end structure Z = G(struct end) val y = case Z.x of (a, b) => (b, a) end"), 0)[:13], "val y: ?1 * ?")
}
