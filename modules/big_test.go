package modules_test

import (
	"fmt"
	"math"
	"math/rand"
	"reflect"
	"strings"
	"testing"

	"wafer/api"
	"wafer/env"
	"wafer/kernel"
	"wafer/modules"
)

// deepest: how deep parts may be nested in what is given.
const deepest = 1 << 16

// deepStr: a structure within structures, with a type and a value at each.
func deepStr(depth int) api.Str {
	s := str(typ("t", stamp(1)), val("x", stamp(1)))
	for range depth {
		s = str(typ("t", stamp(1)), val("x", stamp(1)), api.SubMember{Name: "A", S: s})
	}
	return s
}

func deepTerm(depth int) api.TM {
	x := v("X")
	for range depth {
		x = sel("A", x)
	}
	return x
}

// TestDeep: what is nested as deep as it may be.
func TestDeep(t *testing.T) {
	t.Parallel()
	s, x := deepStr(deepest/2), deepTerm(deepest)
	e := modules.Enter(env.Env{Subs: []env.Sub{{Name: "M", S: s, X: x}}}, "N", s, api.TM{Kind: api.XFst, Kids: []api.TM{x}})
	if len(e.Subs) != 2 || e.Subs[1].Name != "N" {
		t.Error("no structure is there")
	}
	for _, c := range []struct{ text, want string }{
		{"val x = M.A.A.x", "val x: #1 | 0 to 5"},
		{"structure X = M", "ErrBig at 0"},
		{"structure X = N : sig type t end", "structure X;   type t = #1 | 0 to 6"},
		{"structure X = M.A.A.A :> sig structure A : sig type t end end", "structure X;   structure A;     type t = ?1 | 1 to 6"},
	} {
		m, i, err := modules.Decs(e, unit(c.text), 5)
		same(t, c.text, answer(m, i, err), c.want)
	}
	m := modules.Made{A: api.Abs{Stamps: ints(1), S: s}, X: x, Next: 7}
	is, err := modules.Seal(m, abs(ints(2), typ("t", stamp(2)), sub("A", val("x", stamp(2)))), true)
	same(t, "Seal", answerMod(is, err), "type t = ?1; structure A;   val x: ?1 | 1 to 7")
	is, err = modules.Seal(m, abs(ints(2), typ("t", stamp(2)), sub("A", val("x", stamp(2)))), false)
	same(t, "Seal", answerMod(is, err), "type t = ?1; structure A;   val x: ?1 | 1 to 7")
	if _, err := modules.Seal(m, m.A, true); err != api.ErrBig {
		t.Errorf("%s", code(err))
	}
	f := env.Fun{F: api.Fun{Stamps: ints(3), Arg: str(typ("t", stamp(3))), Res: abs(ints(4), val("x", pair(stamp(3), stamp(4))))}, X: x}
	is, err = modules.Apply(f, m)
	same(t, "Apply", answerMod(is, err), "val x: ?1 * ?2 | 2 to 8")
	f.F.Res.S = s
	if _, err := modules.Apply(f, m); err != api.ErrBig {
		t.Errorf("%s", code(err))
	}
	f.F.Arg = s
	if _, err := modules.Apply(f, m); err != api.ErrMatch {
		t.Errorf("%s", code(err))
	}
	deep := structure()
	for range deepest {
		deep = behind(api.MAsc, deep, api.Sig{})
	}
	if _, err := modules.Mod(env.Env{}, deep, 0); err != api.ErrDeep {
		t.Errorf("%s", code(err))
	}
	if _, i, err := modules.Decs(env.Env{}, []api.Dec{dval("x", num(1)), dstr("X", deep)}, 0); err != api.ErrDeep || i != 1 {
		t.Errorf("%s at %d", code(err), i)
	}
}

// nested: structures within one another, as deep as nodes may be.
func nested(depth int, in string) api.Mod {
	m := mod(in)
	for range depth {
		m = structure(dval("x", num(1)), ddata("t", con("P")), dstr("A", m), dval("y", api.Exp{Kind: api.ECon, Path: split("P")}))
	}
	return m
}

// TestNested: structures, lets and functors as deep as nodes may be nested.
func TestNested(t *testing.T) {
	t.Parallel()
	empty := placed(env.Env{})
	want := func(m api.Mod, end string) {
		t.Helper()
		if got := empty.mod(t, m, 0); !strings.HasSuffix(got, end) {
			t.Errorf("%s, want %s", brief(got), end)
		}
	}
	const most = api.MaxDepth / 2
	want(nested(most-2, "struct val z = 1 + 1 end"), "| 48 to 48")
	want(nested(most-2, "struct val z = 1 + 1 + 1 end"), "ErrDeep")
	lets, functors := mod("struct val z = x end"), mod("struct val z = 1 end")
	for range most - 4 {
		lets = letMod(append(unit("data t = P of int val x = 1"), dstr("A", mod("struct data t = P end"))), letMod(nil, lets))
		functors = structure(dfunctor("F", "X", sig("sig type t val x : t end"), functors), dval("x", num(1)))
	}
	want(lets, "val z: int | 0 to 92")
	want(functors, "| 0 to 46")
	applied1 := at("X")
	for range api.MaxDepth - 5 {
		applied1 = applied("F", applied1)
	}
	l := append(unit("functor F (X : sig type t end) = struct data t = P of X.t end structure X = struct type t = int end"), dstr("Y", applied1))
	if got := empty.decs(t, l, 0); !strings.HasSuffix(got, "| 2 to 97") {
		t.Errorf("%s", brief(got))
	}
	sealed := mod("struct data t = P val x = P end")
	for i := range api.MaxDepth - 6 {
		sealed = behind([]int{api.MSeal, api.MAsc}[i%2], sealed, sig("sig type t val x : t end"))
	}
	want(sealed, "type t = ?1; val x: ?1 | 1 to 95")
}

// TestGreat: very much in one list.
func TestGreat(t *testing.T) {
	t.Parallel()
	const many = 100000
	var stamps []int
	e := env.Env{}
	for i := range many {
		stamps = append(stamps, i+10)
		e.Vals = append(e.Vals, env.Val{Name: "x", S: api.Scheme{T: stamp(i)}, X: v(fmt.Sprint("x", i))})
		e.Subs = append(e.Subs, env.Sub{Name: "M", S: str(val("x", integer())), X: v(fmt.Sprint("M", i))})
	}
	for _, text := range []string{"val y = M.x val z = x", "structure A = M", "functor F (X : sig type t end) = M structure X = F(struct type t = int end)"} {
		if m, i, err := modules.Decs(e, unit(text), 5); err != api.OK {
			t.Errorf("%s", answer(m, i, err))
		}
	}
	if got := modules.Enter(e, "Z", str(), v("Z")); len(got.Subs) != many+1 {
		t.Errorf("%d", len(got.Subs))
	}
	m := modules.Made{A: api.Abs{Stamps: stamps, S: str(typ("t", stamp(10)), typ("u", stamp(many+9)))}, X: v("X"), Next: many + 10}
	got, err := modules.Seal(m, abs(ints(3), typ("t", stamp(3))), false)
	same(t, "Seal", answerMod(got, err), fmt.Sprint("type t = ?1 | 1 to ", many+10))
	f := env.Fun{X: v("F"), F: api.Fun{Stamps: ints(1), Arg: str(typ("u", stamp(1))), Res: abs(stamps, typ("v", stamp(1)))}}
	got, err = modules.Apply(f, m)
	same(t, "Apply", answerMod(got, err), "ErrBig")
	f.F.Res = abs(stamps[:api.MaxStr-3], typ("v", stamp(1)))
	got, err = modules.Apply(f, m)
	same(t, "Apply", answerMod(got, err), fmt.Sprint("type v = ?1 | 1 to ", many+10+api.MaxStr-3))
}

// TestDatas: datatypes whose constructors have themselves, as often as the kernel takes.
func TestDatas(t *testing.T) {
	t.Parallel()
	empty := placed(env.Env{})
	var l []api.Con
	for i := range 1500 {
		l = append(l, con(fmt.Sprint("P", i), ycon("t")))
	}
	if got := empty.decs(t, []api.Dec{ddata("t", l[:500]...)}, 0); !strings.HasSuffix(got, "| 1 to 1") {
		t.Errorf("%s", brief(got))
	}
	pairs := wideTy(499, ycon("t"))
	if got := empty.decs(t, []api.Dec{ddata("t", con("P"), con("Q", pairs))}, 0); !strings.HasSuffix(got, "| 1 to 1") {
		t.Errorf("%s", brief(got))
	}
	// Of more the kernel says that a type is too great: the sum with the datatype in place of each stamp of it is.
	m, i, err := modules.Decs(env.Env{}, []api.Dec{ddata("t", l...)}, 0)
	if err != api.OK {
		t.Errorf("%s", answer(m, i, err))
	}
	if _, err := kernel.Check(m.X, nil, nil); err != api.ErrBig {
		t.Errorf("%s", code(err))
	}
}

// wild: writes wild things into plain data.
func wild(r *rand.Rand, v reflect.Value, often int) {
	switch v.Kind() {
	case reflect.Struct:
		for i := range v.NumField() {
			wild(r, v.Field(i), often)
		}
	case reflect.Slice:
		if r.Intn(often) == 0 {
			switch {
			case v.Len() > 1 && r.Intn(2) == 0:
				v.Set(v.Slice(0, r.Intn(v.Len())))
			case v.Len() > 0:
				l := reflect.MakeSlice(v.Type(), 0, v.Len()+1)
				v.Set(reflect.Append(reflect.AppendSlice(l, v), v.Index(r.Intn(v.Len()))))
			default:
				v.Set(reflect.MakeSlice(v.Type(), 1, 1))
			}
		}
		for i := range v.Len() {
			wild(r, v.Index(i), often)
		}
	case reflect.Int, reflect.Int64:
		if r.Intn(often) == 0 {
			v.SetInt([]int64{-1, 0, 1, 2, 3, 4, 5, 6, 7, 8, 20, math.MinInt64, math.MaxInt64, 1 << 31, 1<<31 - 1}[r.Intn(15)])
		}
	case reflect.String:
		if r.Intn(often) == 0 {
			v.SetString([]string{"", "x", "X", "end", "t", "T", "M", "int", strings.Repeat("a", 40)}[r.Intn(9)])
		}
	}
}

// TestWildDecs: whatever declarations are handed in: the error that the chapter names.
func TestWildDecs(t *testing.T) {
	t.Parallel()
	w, count := placed(world()), tally{}
	for seed := range int64(900) {
		m := newMaker(seed*3 + 2)
		p := place{e: w.e, next: 50}
		l := roomy(m.program(p, 1+m.Intn(3), 2))
		wild(m.Rand, reflect.ValueOf(&l).Elem(), 60)
		count[strings.Fields(w.decs(t, l, 50) + " OK")[0]]++
		x := roomy(m.mod(p, 2))
		wild(m.Rand, reflect.ValueOf(&x).Elem(), 60)
		count[strings.Fields(w.mod(t, x, 50) + " OK")[0]]++
	}
	count.enough(t, 50, "ErrArg", "ErrName")
	count.enough(t, 8, "ErrUnbound", "ErrTwice")
}

// TestWildPlaces: in environments that are not sound, and of any structures, functors and signatures, calls end, and with an error nothing is made.
func TestWildPlaces(t *testing.T) {
	t.Parallel()
	count := tally{}
	see := func(what string, seed int64, m modules.Made, err api.Errno) {
		if err != api.OK && tell(m) != tell(modules.Made{}) {
			t.Fatalf("%d: %s: something is made beside an error", seed, what)
		}
		count[what+" "+code(err)]++
	}
	for seed := range int64(400) {
		m := newMaker(seed*3 + 2)
		p := place{e: world(), next: 50}
		l, x := m.program(p, 3, 2), m.mod(p, 2)
		g := m.someGiven()
		e := roomy(world())
		wild(m.Rand, reflect.ValueOf(&e).Elem(), 40)
		made, _, err := modules.Decs(e, l, 50)
		see("Decs", seed, made, err)
		made, err = modules.Mod(e, x, 50)
		see("Mod", seed, made, err)
		often := chosen(m, []int{25, 60, 150})
		f, arg, a := roomy(g.F), roomy(g.Arg), roomy(g.A)
		wild(m.Rand, reflect.ValueOf(&f).Elem(), often)
		wild(m.Rand, reflect.ValueOf(&arg).Elem(), often)
		wild(m.Rand, reflect.ValueOf(&a).Elem(), often)
		made, err = modules.Apply(f, arg)
		see("Apply", seed, made, err)
		made, err = modules.Seal(arg, a, m.Intn(2) == 0)
		see("Seal", seed, made, err)
		modules.Enter(e, g.Arg.X.Name, arg.A.S, arg.X)
	}
	count.enough(t, 20, "Decs OK", "Mod OK", "Apply OK", "Seal OK", "Decs ErrUnbound", "Apply ErrMatch", "Seal ErrMatch")
}

// TestZero: of nothing at all.
func TestZero(t *testing.T) {
	m, i, err := modules.Decs(env.Env{}, nil, 0)
	same(t, "Decs", answer(m, i, err), "| 0 to 0")
	m, err = modules.Mod(env.Env{}, api.Mod{}, 0)
	same(t, "Mod", answerMod(m, err), "ErrArg")
	m, err = modules.Apply(env.Fun{}, modules.Made{})
	same(t, "Apply", answerMod(m, err), "| 0 to 0")
	m, err = modules.Seal(modules.Made{}, api.Abs{}, true)
	same(t, "Seal", answerMod(m, err), "| 0 to 0")
	if e := modules.Enter(env.Env{}, "", api.Str{}, api.TM{}); len(e.Subs) != 1 {
		t.Error("no structure is there")
	}
}
