package trans_test

import (
	"fmt"
	"slices"
	"testing"

	"wafer/api"
	"wafer/target"
	"wafer/trans"
)

// deepest: how deep parts may be nested in what is given.
const deepest = 1 << 16

// TestDeepTypes: types that are nested as deep as they may be, and far greater than inference lets them be.
func TestDeepTypes(t *testing.T) {
	left, right := stamp(1), gen(0)
	wantLeft, wantRight := v(1), v(3)
	for range deepest - 4 {
		left, right = pair(left, stamp(2)), fn(stamp(2), right)
		wantLeft, wantRight = gpair(wantLeft, v(2)), gfn(v(2), wantRight)
	}
	x, code := trans.Type(left)
	if code != api.OK || !target.SameType(x, wantLeft) {
		t.Errorf("Type: %v", code)
	}
	x, code = trans.Scheme(of(1, right))
	if code != api.OK || x.N != 3 || !target.SameType(x, all(3, wantRight)) {
		t.Errorf("Scheme: %v", code)
	}
	x, code = trans.Con(1, ctor("A", left))
	if code != api.OK || !target.SameType(x, gfn(wantLeft, v(1))) {
		t.Errorf("Con: %v", code)
	}
	x, code = trans.Str(str(typ("t", stamp(1), ctor("A", left)), poly("x", 1, right)))
	if code != api.OK || !target.SameType(x, rec(texts("A()", "out t", "x"), gfn(wantLeft, v(1)), gfn(v(1), sum(wantLeft)), all(3, wantRight))) {
		t.Errorf("Str: %v", code)
	}
	// What is wrong stands at the very bottom.
	left = meta(0)
	for range deepest - 4 {
		left = pair(left, stamp(2))
	}
	wantCode := func(_ api.TT, code api.Errno) {
		t.Helper()
		if code != api.ErrArg {
			t.Errorf("a TMeta at the bottom: %v", code)
		}
	}
	wantCode(trans.Type(left))
	wantCode(trans.Scheme(of(0, left)))
	wantCode(trans.Str(str(val("x", left))))
}

// TestDeep: structures and functors that are nested as deep as they may be, with something right or wrong at the bottom.
func TestDeep(t *testing.T) {
	for _, bottom := range []struct {
		s    api.Str
		code api.Errno
	}{
		{str(val("x", fn(stamp(1), stamp(3)))), api.OK},
		{str(val("x", stamp(-1))), api.ErrArg},
		{str(val("x", unit()), val("x", unit())), api.ErrTwice},
	} {
		subs, args, res := bottom.s, bottom.s, bottom.s
		for range deepest - 6 {
			subs = str(api.SubMember{Name: "M", S: subs})
		}
		for range deepest / 4 {
			args = str(functor("F", ints(1), args, abs(nil)))
			res = str(functor("F", ints(1), str(), api.Abs{Stamps: ints(2, 1), S: res}))
		}
		for what, s := range map[string]api.Str{"structures": subs, "Args": args, "Res": res} {
			x, code := trans.Abs(api.Abs{Stamps: ints(1), S: s})
			if code != bottom.code {
				t.Fatalf("%s: %v, want %v", what, code, bottom.code)
			}
			if code != api.OK {
				answers(t, what, x, code, api.TT{}, code)
				continue
			}
			if free := target.FreeTypes(x); !slices.Equal(free, ints(3)) || target.RightType(x) != api.OK {
				t.Errorf("%s: %v are free", what, free)
			}
		}
	}
}

// TestWide: so many members, constructors, stamps and TGen that no list of them can be gone through for each.
func TestWide(t *testing.T) {
	const count = 100000
	var s api.Str
	var stamps []int
	var l []api.Ctor
	for i := range count {
		back := count - 1 - i
		s.Vals = append(s.Vals, val(fmt.Sprintf("x%06d", back), stamp(back)))
		s.Subs = append(s.Subs, sub(fmt.Sprintf("M%06d", back)))
		l = append(l, ctor(fmt.Sprintf("C%06d", back), stamp(back)))
		stamps = append(stamps, back)
	}
	s.Types = []api.TyMember{typ("t", stamp(count), l...)}
	x, code := trans.Abs(api.Abs{Stamps: stamps, S: s})
	if code != api.OK {
		t.Fatalf("Abs: %v", code)
	}
	for i := range count {
		if x.Kind != api.GEx || x.N != count-1-i {
			t.Fatalf("binder %d: kind %d, %d", i, x.Kind, x.N)
		}
		x = x.Kids[0]
	}
	if len(x.Labels) != 3*count+1 || len(x.Kids) != 3*count+1 || !slices.IsSorted(x.Labels) {
		t.Fatalf("%d labels", len(x.Labels))
	}
	for i := range count {
		answers(t, "constructor", x.Kids[i], api.OK, gfn(v(i), v(count)), api.OK)
		answers(t, "structure", x.Kids[count+i], api.OK, rec(nil), api.OK)
		answers(t, "value", x.Kids[2*count+1+i], api.OK, v(i), api.OK)
	}
	if out := x.Kids[2*count]; len(out.Kids) != 2 || len(out.Kids[1].Kids) != count || out.Kids[1].Kids[0].N != count-1 {
		t.Errorf("out: %d kids", len(out.Kids))
	}
	// One too many at the end.
	twice := func(_ api.TT, code api.Errno) {
		t.Helper()
		if code != api.ErrTwice {
			t.Errorf("one that is there already: %v", code)
		}
	}
	twice(trans.Abs(api.Abs{Stamps: append(slices.Clip(stamps), count-1)}))
	twice(trans.Fun(api.Fun{Stamps: append(slices.Clip(stamps), 0)}))
	s.Vals = append(s.Vals, val("x000000", stamp(0)))
	twice(trans.Str(s))
}

// leaves: a type with so many TGen side by side, from a number on.
func leaves(from, count int) api.Type {
	if count == 1 {
		return gen(from)
	}
	return pair(leaves(from, count/2), leaves(from+count/2, count-count/2))
}

// TestManyGens: schemes that leave very much open.
func TestManyGens(t *testing.T) {
	const count = 200000
	x, code := trans.Scheme(of(count, fn(stamp(9), leaves(0, count))))
	if code != api.OK {
		t.Fatalf("Scheme: %v", code)
	}
	for i := range count {
		if x.Kind != api.GAll || x.N != 10+i {
			t.Fatalf("binder %d: kind %d, %d", i, x.Kind, x.N)
		}
		x = x.Kids[0]
	}
	free := target.FreeTypes(x)
	if len(free) != count+1 || free[0] != 9 || free[1] != 10 || free[count] != count+9 {
		t.Errorf("%d variables", len(free))
	}
}
