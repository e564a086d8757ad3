package match_test

import (
	"fmt"
	"math"
	"math/rand"
	"reflect"
	"strings"
	"testing"

	"wafer/api"
	"wafer/env"
	"wafer/kernel"
	"wafer/match"
	"wafer/trans"
)

// deepest: how deep parts may be nested in what is given.
const deepest = 1 << 16

// nested: a structure within as many others.
func nested(depth int, s api.Str) api.Str {
	for range depth {
		s = api.Str{Subs: []api.SubMember{{Name: "M", S: s}}}
	}
	return s
}

// TestDeep: structures that are nested as deep as they may be.
func TestDeep(t *testing.T) {
	t.Parallel()
	const depth = deepest - 4
	general := poly("f", 2, fn(gen(0), gen(1)))
	narrow := poly("f", 1, fn(gen(0), gen(0)))
	has := nested(depth, str(typ("t", integer()), val("x", integer()), general))
	asks := nested(depth, str(typ("t", stamp(5)), val("x", integer()), narrow))
	l, err := match.Types(has, asks, ints(5))
	if err != api.OK || texts(l) != "int" {
		t.Errorf("Types: %s %s", texts(l), code(err))
	}
	wantCode(t, "Has", match.Has(has, asks), api.ErrMatch)
	wantCode(t, "Has", match.Has(has, has), api.OK)
	wantCode(t, "Has of what is not so deep", match.Has(nested(depth-1, has.Subs[0].S), asks), api.ErrMatch)
	if _, err := match.Match(has, api.Abs{Stamps: ints(5), S: asks}); err != api.ErrBig {
		t.Errorf("Match: %s", code(err))
	}
	if _, err := match.Put(asks, ints(5), list(integer())); err != api.ErrBig {
		t.Errorf("Put: %s", code(err))
	}
	asks = nested(depth, str(typ("t", integer()), val("x", integer()), narrow))
	from, _ := trans.Str(has)
	wantCoerced(t, has, asks, variable("x"), []kernel.Bind{{Name: "x", T: from}})
	wantCoerced(t, has, has, variable("x"), []kernel.Bind{{Name: "x", T: from}})
}

// TestDeepSignatures: Put is asked for what is nested as deep as it may be, and is too great.
func TestDeepSignatures(t *testing.T) {
	t.Parallel()
	args, results, signatures := str(val("x", stamp(5))), str(val("x", stamp(5))), str(val("x", stamp(5)))
	for range deepest / 4 {
		args = api.Str{Funs: []api.FunMember{{Name: "F", F: api.Fun{Stamps: ints(6), Arg: args}}}}
		results = api.Str{Funs: []api.FunMember{{Name: "F", F: api.Fun{Stamps: ints(6), Res: api.Abs{Stamps: ints(6), S: results}}}}}
		signatures = api.Str{Sigs: []api.SigMember{{Name: "S", A: api.Abs{Stamps: ints(6), S: signatures}}}}
	}
	for _, s := range []api.Str{args, results, signatures} {
		for _, by := range []api.Type{integer(), stamp(6)} {
			if _, err := match.Put(s, ints(5), list(by)); err != api.ErrBig {
				t.Errorf("%s", code(err))
			}
		}
		wantCode(t, "Has", match.Has(s, s), api.ErrMatch)
		wantCode(t, "Has of nothing", match.Has(s, str()), api.OK)
		if _, err := match.Coerce(s, str(), variable("x")); err != api.OK {
			t.Errorf("Coerce: %s", code(err))
		}
	}
}

// TestDeepTypes: types, and terms, that are nested as deep as they may be.
func TestDeepTypes(t *testing.T) {
	left, right := stamp(1), stamp(1)
	x := variable("x")
	for range deepest - 8 {
		left, right = pair(left, stamp(2)), fn(stamp(2), right)
		x = api.TM{Kind: api.XTick, Kids: []api.TM{x}}
	}
	s := str(typ("t", left), val("x", right), typ("u", stamp(2)))
	wantCode(t, "Has", match.Has(s, s), api.OK)
	l, err := match.Types(s, str(typ("t", stamp(5)), typ("u", stamp(6))), ints(5, 6))
	if err != api.OK || len(l) != 2 || len(l[0].Kids) != 2 || l[1].N != 2 {
		t.Errorf("Types: %s", code(err))
	}
	if _, err := match.Put(s, ints(1), list(integer())); err != api.ErrBig {
		t.Errorf("Put: %s", code(err))
	}
	if _, err := match.Put(str(val("x", stamp(5))), ints(5), list(left)); err != api.ErrBig {
		t.Errorf("Put of it: %s", code(err))
	}
	open := poly("x", 1, fn(gen(0), fn(gen(0), gen(0))))
	has, asks := str(open), str(val("x", fn(left, fn(left, left))))
	from, _ := trans.Str(has)
	m := wantCoerced(t, has, asks, variable("x"), []kernel.Bind{{Name: "x", T: from}})
	if again, err := match.Coerce(has, asks, x); err != api.OK || len(again.Kids) != len(m.Kids) {
		t.Errorf("Coerce: %s", code(err))
	}
	if _, err := match.Coerce(s, s, x); err != api.OK {
		t.Errorf("Coerce: %s", code(err))
	}
}

// TestWide: so many members and stamps that no list of them can be gone through for each.
func TestWide(t *testing.T) {
	t.Parallel()
	const count = 60000
	var has, asks api.Str
	var stamps []int
	var by []api.Type
	for i := range count {
		name := fmt.Sprintf("x%06d", i)
		has.Types = append(has.Types, typ(name, fn(integer(), stamp(i))))
		has.Vals = append(has.Vals, poly(name, 1, fn(gen(0), fn(gen(0), stamp(i)))))
		has.Subs = append(has.Subs, sub("X"+name))
		stamps, by = append(stamps, count+i), append(by, fn(integer(), stamp(i)))
	}
	for i := range count {
		m := has.Vals[count-1-i]
		asks.Types = append(asks.Types, typ(m.Name, stamp(count+count-1-i)))
		asks.Vals = append(asks.Vals, m)
		asks.Subs = append(asks.Subs, has.Subs[count-1-i])
	}
	l, err := match.Types(has, asks, stamps)
	if err != api.OK || tell(l) != tell(by) {
		t.Errorf("Types: %s", code(err))
	}
	if _, err := match.Put(asks, stamps, by); err != api.ErrBig {
		t.Errorf("Put: %s", code(err))
	}
	// It is told to be too great ahead of being made.
	same := api.Str{Vals: make([]api.ValMember, count)}
	for i := range same.Vals {
		same.Vals[i] = val("x", stamp(1))
	}
	if _, err := match.Put(same, ints(1), list(wide(500, unit()))); err != api.ErrBig {
		t.Errorf("Put: %s", code(err))
	}
	wantCode(t, "Has", match.Has(has, has), api.OK)
	wantCode(t, "Has", match.Has(has, asks), api.ErrMatch)
	asks.Types = nil
	for i := range 300 {
		// What is instanced, here and there.
		asks.Vals[i*100].S = api.Scheme{T: fn(unit(), fn(unit(), stamp(count-1-i*100)))}
	}
	from, _ := trans.Str(has)
	wantCoerced(t, has, asks, variable("x"), []kernel.Bind{{Name: "x", T: from}})
	// Of one name.
	for i := range has.Types {
		has.Types[i].Name, asks.Subs[i].Name, has.Subs[i].Name = "t", "M", "M"
	}
	wantCode(t, "Has", match.Has(has, asks), api.OK)
	wantTypesOf(t, has, str(typ("t", stamp(3))), fn(integer(), stamp(count-1)))
}

func wantTypesOf(t *testing.T, has, asks api.Str, want api.Type) {
	t.Helper()
	l, err := match.Types(has, asks, ints(3))
	if err != api.OK || len(l) != 1 || tell(l[0]) != tell(want) {
		t.Errorf("Types: %s %s", texts(l), code(err))
	}
}

// TestManyStamps: many stamps that are put in, and many that are bound.
func TestManyStamps(t *testing.T) {
	t.Parallel()
	const count = 300000
	stamps, by, bound := make([]int, count), make([]api.Type, count), make([]int, 3000)
	for i := range stamps {
		stamps[i], by[i] = i, stamp(count+i)
	}
	for i := range bound {
		bound[i] = count + i
	}
	s := str(val("x", pair(stamp(7), stamp(count-1))), sig("S", bound, val("x", pair(stamp(count), stamp(8)))))
	is, err := match.Put(s, stamps, by)
	if err != api.OK {
		t.Fatal(code(err))
	}
	want := str(val("x", pair(stamp(count+7), stamp(2*count-1))), sig("S", ints(0), val("x", pair(stamp(0), stamp(count+8)))))
	if !env.SameAbs(api.Abs{S: is}, api.Abs{S: want}) || len(is.Sigs[0].A.Stamps) != len(bound) {
		t.Errorf("%s", brief(show(is)))
	}
	wantNew(t, "many", api.Abs{S: s}, api.Abs{S: is}, by)
	all := make([]int, count)
	for i := range all {
		all[i] = 5
	}
	l, err := match.Types(str(typ("t", unit())), str(typ("t", stamp(5))), all)
	if err != api.OK || len(l) != count || l[count-1].Kind != api.TUnit {
		t.Errorf("Types: %s", code(err))
	}
}

// wild: writes wild things into plain data.
func wild(r *rand.Rand, v reflect.Value, often int) {
	switch v.Kind() {
	case reflect.Struct:
		for i := range v.NumField() {
			wild(r, v.Field(i), often)
		}
	case reflect.Slice:
		if r.Intn(often) == 0 {
			switch {
			case v.Len() > 1 && r.Intn(2) == 0:
				v.Set(v.Slice(0, r.Intn(v.Len())))
			case v.Len() > 0:
				l := reflect.MakeSlice(v.Type(), 0, v.Len()+1)
				v.Set(reflect.Append(reflect.AppendSlice(l, v), v.Index(r.Intn(v.Len()))))
			default:
				v.Set(reflect.MakeSlice(v.Type(), 1, 1))
			}
		}
		for i := range v.Len() {
			wild(r, v.Index(i), often)
		}
	case reflect.Int, reflect.Int64:
		if r.Intn(often) == 0 {
			v.SetInt([]int64{-1, 0, 1, 2, 3, 4, 5, 6, 7, 8, 20, math.MinInt64, math.MaxInt64, 1 << 31, 1<<31 - 1}[r.Intn(15)])
		}
	case reflect.String:
		if r.Intn(often) == 0 {
			v.SetString([]string{"", "x", "X", "out t", "A()", "t", "M", "int", strings.Repeat("a", 40)}[r.Intn(9)])
		}
	}
}

// TestWild: whatever is given, calls end; they answer as the chapter's words say, and with an error every other result is zero.
func TestWild(t *testing.T) {
	t.Parallel()
	count, coerced := map[api.Errno]int{}, 0
	for seed := range int64(6000) {
		m := newMaker(seed)
		has, a, l := m.two()
		g := roomy(given{has, m.str(3, true), a, a.Stamps, l, m.term(3)})
		if m.Intn(2) == 0 {
			g.A, g.S = roomy(m.abs(3)), roomy(a.S)
			g.Has = roomy(m.more(a.S))
		}
		wild(m.Rand, reflect.ValueOf(&g).Elem(), 30+300*m.Intn(2))
		what := fmt.Sprintf("%d: %s; %s; %s; %v; %s", seed, show(g.Has), show(g.S), showAbs(g.A), g.Stamps, texts(g.L))
		types, err := match.Types(g.Has, g.A.S, g.Stamps)
		plain, want := plainTypes(g.Has, g.A.S, g.Stamps)
		if err != want || tell(types) != tell(plain) {
			t.Fatalf("Types %s: %s %s", what, texts(types), code(err))
		}
		types, err = match.Match(g.Has, g.A)
		plain, want = plainMatch(g.Has, g.A)
		if err != want || tell(types) != tell(plain) {
			t.Fatalf("Match %s: %s %s", what, texts(types), code(err))
		}
		is, err := match.PutAbs(g.A, g.Stamps, g.L)
		plainly, want := plainPutAbs(g.A, g.Stamps, g.L)
		if err != want || !alikeAbs(is, plainly) {
			t.Fatalf("PutAbs %s: %s %s", what, showAbs(is), code(err))
		}
		count[err]++
		if got := match.Has(g.Has, g.S) == api.OK; got != plainHas(g.Has, g.S) {
			t.Fatalf("Has %s: %v", what, got)
		}
		x, err := match.Coerce(g.Has, g.S, g.X)
		if err != api.OK && tell(x) != tell(api.TM{}) {
			t.Fatalf("Coerce %s: a term beside an error", what)
		}
		if err == api.OK {
			from, _ := trans.Str(g.Has)
			wantCoerced(t, g.Has, g.S, variable("x"), []kernel.Bind{{Name: "x", T: from}})
			coerced++
		}
	}
	if count[api.OK] < 1000 || count[api.ErrArg] < 200 || coerced < 300 {
		t.Errorf("%v, %d coerced: the test does not try much", count, coerced)
	}
}
