package sigs_test

import (
	"math"
	"math/rand"
	"reflect"
	"strconv"
	"strings"
	"testing"

	"wafer/api"
	"wafer/env"
	"wafer/sigs"
)

// deepest: how deep parts may be nested in what is given.
const deepest = 1 << 16

// TestDeep: what is nested as deep as it may be.
func TestDeep(t *testing.T) {
	g, y, is, s := path("T"), ty("int"), integer(), str(typ("t", stamp(1)))
	for range deepest / 2 {
		g, y, is = specs(cstr("A", g)), api.Ty{Kind: api.YFn, Kids: []api.Ty{y, y}[:1]}, api.Type{Kind: api.TFn, Kids: []api.Type{is}}
		s = str(api.SubMember{Name: "A", S: s}, typ("t", stamp(1)))
	}
	w := path("T")
	for range deepest {
		w = where(w, "t", ty("int"))
	}
	for _, one := range []api.Sig{g, w, specs(cval("x", y)), where(path("T"), "t", y), specs(cdata("d", con("A", y)))} {
		if got := elab(world(), one, 5); got != "ErrDeep" {
			t.Errorf("%s, want ErrDeep", brief(got))
		}
	}
	if _, err := sigs.Data(world(), "d", []api.Con{con("A", y)}, 5); err != api.ErrDeep {
		t.Errorf("%v", err)
	}
	a := api.Abs{Stamps: ints(1), S: s}
	if got, end := sigs.Fresh(a, 7); end != 8 || len(got.S.Types) != 1 || got.S.Types[0].T.N != 7 {
		t.Errorf("%d", end)
	}
	if _, err := sigs.Where(a, []string{"t"}, integer()); err != api.ErrBig {
		t.Errorf("%v", err)
	}
	if _, err := sigs.Where(a, strings.Split(strings.Repeat("A.", deepest/2)+"u", "."), integer()); err != api.ErrUnbound {
		t.Errorf("%v", err)
	}
	if _, err := sigs.Where(abs(ints(1), typ("t", stamp(1)), val("x", is)), []string{"t"}, integer()); err != api.ErrBig {
		t.Errorf("%v", err)
	}
	if _, err := sigs.Where(abs(ints(1), typ("t", stamp(1))), []string{"t"}, is); err != api.ErrBig {
		t.Errorf("%v", err)
	}
	e := env.Env{Sigs: []env.Sig{{Name: "T", A: a}}, Subs: []env.Sub{{Name: "M", S: s}}}
	if _, next, err := sigs.Elab(e, path("T"), 7); next != 8 || err != api.OK {
		t.Errorf("%d, %v", next, err)
	}
	for _, text := range []string{"sig structure A : T end", "T where type t = int", "sig type u = M.A.t structure B : T end"} {
		if got := elab(e, sig(text), 7); got != "ErrBig" {
			t.Errorf("%s, want ErrBig", brief(got))
		}
	}
}

// TestGreat: very much in one list.
func TestGreat(t *testing.T) {
	t.Parallel()
	const many = 200000
	var l []api.Spec
	var cons []api.Con
	e := world()
	for range many {
		l = append(l, ctype("t"))
		cons = append(cons, con("A", ty("int")))
		e.Typs = append(e.Typs, env.Typ{Name: "more", T: integer()})
	}
	want := func(g api.Sig, is string) {
		t.Helper()
		if got := elab(e, g, 5); got != is {
			t.Errorf("%s, want %s", brief(got), is)
		}
	}
	want(specs(l...), "ErrTwice")
	want(specs(cdata("d", cons...)), "ErrTwice")
	if m, err := sigs.Data(e, "d", cons, 5); err != api.OK || len(m.Ctors) != many {
		t.Errorf("%v", err)
	}
	// Many structures, one behind the other, in an environment with many types.
	var structures []api.Spec
	for i := range 800 {
		structures = append(structures, cstr("A"+strconv.Itoa(i), specs(ctype("t"))))
	}
	if a, next, err := sigs.Elab(e, specs(structures...), 5); err != api.OK || next != 805 || len(a.Stamps) != 800 {
		t.Errorf("%v, %d", err, next)
	}
	stamps := make([]int, many)
	for i := range stamps {
		stamps[i] = i + 10
	}
	a := api.Abs{Stamps: stamps, S: str(typ("t", stamp(10)), typ("u", stamp(many+9)))}
	got, end := sigs.Fresh(a, 300)
	if end != many+300 || got.S.Types[0].T.N != 300 || got.S.Types[1].T.N != many+299 {
		t.Errorf("%d", end)
	}
	if got, err := sigs.Where(a, []string{"u"}, stamp(3)); err != api.OK || len(got.Stamps) != many-1 {
		t.Errorf("%v", err)
	}
}

// wild: writes wild things into plain data.
func wild(r *rand.Rand, v reflect.Value, often int) {
	switch v.Kind() {
	case reflect.Struct:
		for i := range v.NumField() {
			wild(r, v.Field(i), often)
		}
	case reflect.Slice:
		if r.Intn(often) == 0 {
			switch {
			case v.Len() > 1 && r.Intn(2) == 0:
				v.Set(v.Slice(0, r.Intn(v.Len())))
			case v.Len() > 0:
				l := reflect.MakeSlice(v.Type(), 0, v.Len()+1)
				v.Set(reflect.Append(reflect.AppendSlice(l, v), v.Index(r.Intn(v.Len()))))
			default:
				v.Set(reflect.MakeSlice(v.Type(), 1, 1))
			}
		}
		for i := range v.Len() {
			wild(r, v.Index(i), often)
		}
	case reflect.Int, reflect.Int64:
		if r.Intn(often) == 0 {
			v.SetInt([]int64{-1, 0, 1, 2, 3, 4, 5, 6, 7, 8, 20, math.MinInt64, math.MaxInt64, 1 << 31, 1<<31 - 1}[r.Intn(15)])
		}
	case reflect.String:
		if r.Intn(often) == 0 {
			v.SetString([]string{"", "x", "X", "end", "t", "T", "M", "int", strings.Repeat("a", 40)}[r.Intn(9)])
		}
	}
}

// TestWildSigs: whatever is asked for: the error that the chapter names.
func TestWildSigs(t *testing.T) {
	t.Parallel()
	e, wrong := world(), 0
	for seed := range int64(8000) {
		m := newMaker(seed)
		g := roomy(m.sig(e, 3))
		wild(m.Rand, reflect.ValueOf(&g).Elem(), 40)
		a, behind, err := plainElab(e, g, 50)
		if got, want := elab(e, g, 50), answered(50, a, behind, err); got != want {
			t.Fatalf("%d: %s: %s, want %s", seed, showSig(g), got, want)
		}
		if err == api.ErrArg || err == api.ErrName {
			wrong++
		}
	}
	if wrong < 2000 {
		t.Errorf("%d: the test does not try much", wrong)
	}
}

// TestWildPlaces: in environments that are not sound calls end, and with an error every other result is zero; so with any Abs.
func TestWildPlaces(t *testing.T) {
	t.Parallel()
	count := map[api.Errno]int{}
	for seed := range int64(4000) {
		m := newMaker(seed)
		e := roomy(world())
		g := m.sig(e, 4)
		wild(m.Rand, reflect.ValueOf(&e).Elem(), 15)
		a, next, err := sigs.Elab(e, g, 50)
		if err != api.OK && (tell(a) != tell(api.Abs{}) || next != 50) {
			t.Fatalf("%d: something beside an error", seed)
		}
		count[err]++
		b := roomy(m.abs(3))
		b.S.Sigs = []api.SigMember{{Name: "S", A: a}}
		b.S.Funs = []api.FunMember{{Name: "F", F: api.Fun{Stamps: ints(1), Arg: b.S, Res: a}}}
		b = roomy(b)
		wild(m.Rand, reflect.ValueOf(&b).Elem(), 15)
		sigs.Fresh(b, chosen(m, []int{math.MinInt, -1, 0, 3, math.MaxInt}))
		by := roomy(m.typeOf(3))
		wild(m.Rand, reflect.ValueOf(&by).Elem(), 5)
		for _, p := range append(pathsIn(b.S, ""), "t", "", "M.t") {
			c, err := sigs.Where(b, strings.Split(p, "."), by)
			if err != api.OK && tell(c) != tell(api.Abs{}) {
				t.Fatalf("%d: something beside an error", seed)
			}
			count[err]++
		}
		sigs.Data(e, anyName(m), []api.Con{con(anyName(m), m.ty(e, 3, true)), {}, {Tys: []api.Ty{ty("int"), ty("bool")}}}, m.Int())
	}
	if count[api.OK] < 1000 || count[api.ErrWhere] < 1000 || count[api.ErrUnbound] < 1000 {
		t.Errorf("%v: the test does not try much", count)
	}
}

// anyName: so.
func anyName(m *maker) string { return chosen(m, []string{"", "t", "X", "a b"}) }
