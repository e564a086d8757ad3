package core_test

import (
	"fmt"
	"math/rand"
	"reflect"
	"strconv"
	"strings"
	"testing"

	"wafer/api"
	"wafer/core"
	"wafer/env"
	"wafer/target"
	"wafer/tree"
)

// deepest: how deep parts may be nested in what is given.
const deepest = 1 << 16

// TestDeep: declarations and environments that are nested as deep as they may be.
func TestDeep(t *testing.T) {
	for _, x := range []api.Exp{deepExp(deepest), apply(num(1)), letIn(num(1), val("x", deepExp(deepest)))} {
		d := val("x", x)
		_, want := tree.Right([]api.Dec{d})
		if _, _, err := core.Dec(env.Env{}, d); err != want {
			t.Errorf("%v, want %v", err, want)
		}
	}
	p, w := pvar("x"), ty("int")
	for range deepest {
		p, w = ppair(pat("_"), p), api.Ty{Kind: api.YFn, Kids: []api.Ty{ty("int"), w}}
	}
	for _, x := range []api.Exp{fnOf(p, num(1)), ann(num(1), w), caseOf(num(1), branch{p, num(2)})} {
		want(t, env.Env{}, val("x", x), "ErrDeep")
	}
	// A type that is nested so is none of a sound environment: the call ends. A term may be.
	deep, s, x := integer(), api.Str{Vals: []api.ValMember{{Name: "x", S: api.Scheme{T: integer()}}}}, v("x")
	for range deepest - 8 {
		deep, x = fn(integer(), deep), api.TM{Kind: api.XFst, Kids: []api.TM{x}}
		s = api.Str{Subs: []api.SubMember{{Name: "M", S: s}}}
	}
	e := env.Env{
		Vals: []env.Val{{Name: "deep", S: api.Scheme{T: deep}, X: v("deep")}, {Name: "far", S: api.Scheme{T: integer()}, X: x}},
		Typs: []env.Typ{{Name: "deep", T: deep}}, Cons: []env.Con{{Name: "Deep", T: deep, Args: []api.Type{deep}, X: x, Out: x}}, Subs: []env.Sub{{Name: "M", S: s, X: x}},
	}
	for _, d := range []string{"val x = deep", "val x = (deep, deep)", "val x = fn y => (y : deep)", "val x = Deep", "val x = fn Deep y => y", "val x = M.M.M.x", "fun f y : deep = y"} {
		core.Dec(e, dec(d))
	}
	want(t, e, dec("val x = (far, far + 1)"), "int * int")
	want(t, e, dec("val x = fn y => (y, far)"), "'a -> 'a * int")
}

// TestBig: declarations with about as many nodes as there may be: what is made does not grow by a factor with each part.
func TestBig(t *testing.T) {
	t.Parallel()
	p := placed(place())
	branches := func(count int, b func(i int) branch) api.Exp {
		var l []branch
		for i := range count {
			l = append(l, b(i))
		}
		return caseOf(num(1), l...)
	}
	lets := letIn(num(1))
	for i := range 680 {
		lets.Decs = append(lets.Decs, val("x"+strconv.Itoa(i), fnOf(pvar("y"), id("ident"))))
	}
	nested := num(0)
	for i := range 49 {
		nested = caseOf(both(num(1), num(2)), branch{ppair(pvar("a"+strconv.Itoa(i)), pat("2")), nested}, branch{pat("_"), num(3)})
	}
	names := letIn(num(1))
	for i := range 450 {
		names.Decs = append(names.Decs, val("x", fnOf(pvar("y"), id("x"))))
		if i == 0 {
			names.Decs[0] = val("x", num(1))
		}
		if i%300 == 299 {
			// The types grow with each: from here on anew.
			names.Decs[i] = val("x", num(1))
		}
	}
	for what, x := range map[string]api.Exp{
		"many branches":     branches(2040, func(i int) branch { return branch{api.Pat{Kind: api.PInt, N: int64(i + 7)}, num(int64(i))} }),
		"many constructors": branches(650, func(int) branch { return branch{pat("_"), apply(made("Cons"), both(num(1), made("Nil")))} }),
		"many functions":    caseOf(broad(240, func(int) api.Exp { return fnOf(pvar("x"), id("x")) }), branch{pat("_"), num(1)}),
		"many declarations": lets,
		"nested branches":   nested,
		"a chain of names":  names,
		"many sums":         caseOf(broad(400, func(int) api.Exp { return num(1) }), branch{pvar("x"), num(1)}),
	} {
		d := val("x", fnOf(pat("_"), x))
		_, m := p.typed(t, d)
		size := target.Nodes(m, 1<<30)
		t.Logf("%s: %d nodes of a term", what, size)
		if size > 1000000 {
			t.Errorf("%s: %d nodes of a term", what, size)
		}
	}
}

// TestBigTypes: instances of schemes with very much that is open, and many names around an ELet.
func TestBigTypes(t *testing.T) {
	t.Parallel()
	var from func(first, count int) api.Type
	from = func(first, count int) api.Type {
		if count == 1 {
			return gen(first)
		}
		return pair(from(first, count/2), from(first+count/2, count-count/2))
	}
	e := env.Env{Vals: []env.Val{{Name: "g", S: api.Scheme{Gens: 500, T: from(0, 500)}, X: v("g")}}}
	many := func(count int) api.Dec {
		x := letIn(num(1))
		for i := range count {
			x.Decs = append(x.Decs, val("x"+strconv.Itoa(i), id("g")))
		}
		return val("x", x)
	}
	typed(t, e, many(3))
	if _, m, err := core.Dec(e, many(1000)); err != api.OK || count(m, api.XAll) != 500000 {
		t.Errorf("%v", err)
	}
	// Functions of very many parameters around very many declarations.
	in := letIn(num(1))
	for i := range 400 {
		in.Decs = append(in.Decs, val("z", fnOf(pvar("y"), both(id("y"), id("a"+strconv.Itoa(i))))))
	}
	for range 20 {
		f := fun("f", "", in)
		for i := range 450 {
			f.Params = append(f.Params, "a"+strconv.Itoa(i))
		}
		in = letIn(num(1), f)
	}
	if got := answer(env.Env{}, val("x", letIn(num(1), fun("g", "x", in)))); got != "int" {
		t.Error(brief(got))
	}
}

// wild: changes things in plain data by chance.
func wild(r *rand.Rand, v reflect.Value, often int) {
	switch v.Kind() {
	case reflect.Struct:
		for i := range v.NumField() {
			wild(r, v.Field(i), often)
		}
	case reflect.Slice:
		switch {
		case r.Intn(often) > 0:
		case v.Len() > 0 && r.Intn(2) == 0:
			v.Set(v.Slice(0, r.Intn(v.Len())))
		case v.Len() > 0:
			l := reflect.MakeSlice(v.Type(), 0, v.Len()+1)
			v.Set(reflect.Append(reflect.AppendSlice(l, v), v.Index(r.Intn(v.Len()))))
		default:
			v.Set(reflect.MakeSlice(v.Type(), 1, 1))
		}
		for i := range v.Len() {
			wild(r, v.Index(i), often)
		}
	case reflect.Int, reflect.Int64:
		if r.Intn(often) == 0 {
			v.SetInt([]int64{-1, 0, 1, 2, 4, 5, 6, 7, 8, 20, -1 << 63, 1<<63 - 1, 1 << 31, 1<<31 - 1}[r.Intn(14)])
		}
	case reflect.String:
		if r.Intn(often) == 0 {
			v.SetString([]string{"", "x", "X", "end", "$0", "a b", "f", "Cons", strings.Repeat("a", 40)}[r.Intn(9)])
		}
	}
}

// fresh: the same plain data in new memory.
func fresh[T any](x T) T { return roomy(x) }

// TestWildDecs: whatever is asked for: the error that the chapter names.
func TestWildDecs(t *testing.T) {
	t.Parallel()
	newMaker := makers()
	e, wrong := place(), 0
	for seed := range int64(12000) {
		m := newMaker(seed)
		d := fresh(m.someDec(3))
		wild(m.Rand, reflect.ValueOf(&d).Elem(), 60)
		is, ok := plainDec(e, d)
		if !ok {
			continue
		}
		if got := answer(e, d); got != is {
			t.Fatalf("%d: %+v: %s, want %s", seed, d, got, is)
		}
		if is == "ErrArg" || is == "ErrName" {
			wrong++
		}
	}
	if wrong < 2000 {
		t.Errorf("%d: the test does not try much", wrong)
	}
}

// TestWildPlaces: in environments that are not sound calls end, and with an error every other result is zero.
func TestWildPlaces(t *testing.T) {
	t.Parallel()
	newMaker := makers()
	errors := map[api.Errno]int{}
	for seed := range int64(6000) {
		m := newMaker(seed)
		e := fresh(place())
		wild(m.Rand, reflect.ValueOf(&e).Elem(), 25)
		d := m.someDec(4)
		s, x, err := core.Dec(e, d)
		if err != api.OK && (tell(s) != tell(api.Scheme{}) || tell(x) != tell(api.TM{})) {
			t.Fatalf("%d: something beside an error", seed)
		}
		errors[err]++
		core.Type(e, d.Exps[0])
	}
	if errors[api.OK] < 500 || errors[api.ErrType] < 500 {
		t.Errorf("%v: the test does not try much", errors)
	}
}

// TestGreatStamps: stamps in their whole range.
func TestGreatStamps(t *testing.T) {
	for _, n := range []int{0, 1<<31 - 1, 1 << 31, 1<<63 - 1} {
		e := env.Env{
			Typs: []env.Typ{{Name: "t", T: stamp(n)}}, Vals: []env.Val{{Name: "x", S: api.Scheme{T: stamp(n)}, X: v("x")}},
			Cons: []env.Con{{Name: "C", T: stamp(n), All: []api.Ctor{ctor("C")}, X: v("C"), Out: v("Out")}},
		}
		text := "#" + fmt.Sprint(n)
		for d, is := range map[string]string{
			"val y = x": text, "val y = fn z => (z : t)": text + " -> " + text, "val y = fn C => C": text + " -> " + text,
			"val y = fn z => (z, (C, x))": "'a -> 'a * (" + text + " * " + text + ")", "val y = (fn z => 1) x": "int",
		} {
			want(t, e, dec(d), is)
			if n <= 1<<31-1 {
				typed(t, e, dec(d))
			}
		}
	}
}
