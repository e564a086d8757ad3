package target_test

import (
	"maps"
	"math"
	"math/rand"
	"slices"
	"testing"

	"wafer/api"
	"wafer/target"
)

func TestP904Examples(t *testing.T) {
	if got := target.Text(target.Put(all(1, fn(v(1), v(2))), 2, v(1))); got != "all t0. t0 -> #1" {
		t.Errorf("Put: %s", got)
	}
}

// TestP904Types: what comes, up to what is bound.
func TestP904Types(t *testing.T) {
	for _, kind := range []int{api.GMu, api.GAll, api.GEx} {
		b := func(n int, kid api.TT) api.TT { return tt(kind, n, kid) }
		for _, c := range []struct {
			x    api.TT
			n    int
			by   api.TT
			want api.TT
		}{
			{v(1), 1, integer(), integer()}, {v(1), 2, integer(), v(1)}, {v(-1), -1, v(3), v(3)}, {v(1), 1, v(1), v(1)},
			{unit(), 1, integer(), unit()}, {fn(v(1), v(2)), 1, v(2), fn(v(2), v(2))}, {fn(v(1), v(2)), 1, fn(v(1), v(2)), fn(fn(v(1), v(2)), v(2))},
			{rec("a b", v(1), sum(v(1), pair(v(2), v(1)))), 1, unit(), rec("a b", unit(), sum(unit(), pair(v(2), unit())))},
			// Bound, or not there.
			{b(1, v(1)), 1, integer(), b(1, v(1))}, {b(1, v(1)), 2, v(1), b(1, v(1))}, {fn(b(1, v(1)), v(1)), 1, unit(), fn(b(1, v(1)), unit())},
			{b(1, fn(v(1), b(2, v(2)))), 2, v(1), b(1, fn(v(1), b(2, v(2))))},
			{b(2, fn(v(2), v(1))), 1, v(5), b(2, fn(v(2), v(5)))},
			// What is put in would be caught.
			{b(1, v(2)), 2, v(1), b(9, v(1))},
			{b(1, fn(v(1), v(2))), 2, v(1), b(9, fn(v(9), v(1)))},
			{b(1, fn(v(1), v(2))), 2, fn(v(1), v(2)), b(9, fn(v(9), fn(v(1), v(2))))},
			{b(1, b(3, sum(v(1), v(2), v(3)))), 2, pair(v(1), v(3)), b(8, b(9, sum(v(8), pair(v(1), v(3)), v(9))))},
			{b(1, b(1, fn(v(1), v(2)))), 2, v(1), b(8, b(9, fn(v(9), v(1))))},
			{b(1, fn(b(1, fn(v(1), v(2))), v(1))), 2, v(1), b(8, fn(b(9, fn(v(9), v(1))), v(8)))},
			{b(1, fn(v(2), b(2, fn(v(1), v(2))))), 2, v(1), b(8, fn(v(1), b(9, fn(v(8), v(9)))))},
			{b(1, fn(v(2), b(2, fn(v(1), v(2))))), 2, v(2), b(8, fn(v(2), b(9, fn(v(8), v(9)))))},
			// The number that a binder is given must be caught by no other binder, nor be free.
			{b(1, b(0, sum(v(0), v(1), v(2), v(3)))), 2, v(1), b(8, b(9, sum(v(9), v(8), v(1), v(3))))},
			{b(1, sum(v(0), v(1), v(2), v(3), v(4))), 2, sum(v(1), v(5)), b(9, sum(v(0), v(9), sum(v(1), v(5)), v(3), v(4)))},
			{b(0, b(1, b(2, sum(v(0), v(1), v(2), v(3))))), 3, sum(v(0), v(1), v(2), v(3)), b(7, b(8, b(9, sum(v(7), v(8), v(9), sum(v(0), v(1), v(2), v(3))))))},
			{b(math.MaxInt, fn(v(math.MaxInt), v(1))), 1, v(math.MaxInt), b(9, fn(v(9), v(math.MaxInt)))},
			{b(math.MinInt, fn(v(math.MinInt), v(1))), 1, v(math.MinInt), b(9, fn(v(9), v(math.MinInt)))},
			// A bound number of what is put in catches nothing, and is caught by nothing.
			{b(1, fn(v(1), v(2))), 2, b(1, fn(v(1), v(2))), b(9, fn(v(9), b(1, fn(v(1), v(2)))))},
			{b(1, fn(v(1), v(2))), 2, b(1, v(1)), b(1, fn(v(1), b(1, v(1))))},
			// Data that is not right.
			{tt(kind, 1, v(1), v(2), v(2)), 2, v(1), tt(kind, 9, v(9), v(1), v(1))},
			{tt(kind, 1), 1, v(2), tt(kind, 1)}, {tt(api.GInt, 2, v(2)), 2, unit(), tt(api.GInt, 2, unit())},
			{tt(0, 2, v(2), unit()), 2, v(3), tt(0, 2, v(3), unit())}, {tt(api.GVar, 1, v(2)), 2, v(3), tt(api.GVar, 1, v(3))},
			{tt(api.GVar, 2, v(2)), 2, v(3), v(3)}, {b(1, tt(api.GVar, 1, v(2))), 2, v(1), b(9, tt(api.GVar, 9, v(1)))},
			{v(1), 1, api.TT{Kind: 77, N: 5, Labels: []string{"q"}}, api.TT{Kind: 77, N: 5, Labels: []string{"q"}}},
		} {
			got := target.Put(c.x, c.n, c.by)
			if plainType0(got) != plainType0(c.want) {
				t.Errorf("Put(%s, %d, %s): %s, want %s", target.Text(c.x), c.n, target.Text(c.by), plainType0(got), plainType0(c.want))
			}
			inTerm := target.PutIn(app(fail(c.x), x("x")), c.n, c.by)
			if want := app(fail(c.want), x("x")); plainTerm0(inTerm) != plainTerm0(want) {
				t.Errorf("PutIn of XFail(%s), %d, %s: %s", target.Text(c.x), c.n, target.Text(c.by), plainTerm0(inTerm))
			}
		}
	}
}

func TestP904Terms(t *testing.T) {
	pack := func(a, b api.TT, kid api.TM) api.TM {
		return api.TM{Kind: api.XPack, Types: []api.TT{a, b}, Kids: []api.TM{kid}}
	}
	for _, c := range []struct {
		m    api.TM
		n    int
		by   api.TT
		want api.TM
	}{
		{x("x"), 1, unit(), x("x")},
		{lam("x", v(1), x("x")), 1, unit(), lam("x", unit(), x("x"))},
		{fix("f", "x", v(1), fn(v(2), v(1)), fail(v(1))), 1, v(2), fix("f", "x", v(2), fn(v(2), v(2)), fail(v(2)))},
		{pack(v(1), some(1, v(1)), fail(v(1))), 1, unit(), pack(unit(), some(1, v(1)), fail(unit()))},
		{pack(v(2), some(1, fn(v(1), v(2))), xint(1)), 2, v(1), pack(v(1), some(9, fn(v(9), v(1))), xint(1))},
		{xall(1, fail(v(1))), 1, unit(), xall(1, fail(v(1)))},
		{xall(1, fail(fn(v(1), v(2)))), 2, unit(), xall(1, fail(fn(v(1), unit())))},
		{xall(1, fail(fn(v(1), v(2)))), 2, v(1), xall(9, fail(fn(v(9), v(1))))},
		{app(xall(1, fail(v(1))), fail(v(1))), 1, unit(), app(xall(1, fail(v(1))), fail(unit()))},
		{xall(1, lam("x", v(2), xall(1, fail(fn(v(1), v(2)))))), 2, v(1), xall(8, lam("x", v(1), xall(9, fail(fn(v(9), v(1))))))},
		{xall(1, fail(all(1, fn(v(1), v(2))))), 2, v(1), xall(8, fail(all(9, fn(v(9), v(1)))))},
		{xall(1, fail(all(3, sum(v(1), v(2), v(3))))), 2, pair(v(1), v(3)), xall(8, fail(all(9, sum(v(8), pair(v(1), v(3)), v(9)))))},
		// The numbers that are put in for a binder must not be caught: 0 stands in a type, as bound, far inside.
		{xall(1, app(fail(v(2)), xall(0, fail(fn(v(0), v(1)))))), 2, v(1), xall(8, app(fail(v(1)), xall(9, fail(fn(v(9), v(8))))))},
		{open(1, "x", fail(v(1)), fail(v(1))), 1, unit(), open(1, "x", fail(unit()), fail(v(1)))},
		{open(1, "x", fail(v(2)), fail(fn(v(1), v(2)))), 2, v(1), open(9, "x", fail(v(1)), fail(fn(v(9), v(1))))},
		{open(1, "x", fail(fn(v(1), v(2))), fail(v(1))), 2, v(1), open(9, "x", fail(fn(v(1), v(1))), fail(v(9)))},
		{xcase("a b", fail(v(1)), fail(v(1)), fail(v(2))), 1, unit(), xcase("a b", fail(unit()), fail(unit()), fail(v(2)))},
		{api.TM{Kind: api.XInj, N: 1, Types: []api.TT{v(1)}, Kids: []api.TM{x("y")}}, 1, v(5), api.TM{Kind: api.XInj, N: 1, Types: []api.TT{v(5)}, Kids: []api.TM{x("y")}}},
		{api.TM{Kind: api.XAll, N: 1, Types: []api.TT{v(1)}, Kids: []api.TM{fail(v(1)), fail(v(2))}}, 2, v(1), api.TM{Kind: api.XAll, N: 9, Types: []api.TT{v(1)}, Kids: []api.TM{fail(v(9)), fail(v(1))}}},
		{api.TM{Kind: api.XOpen, N: 1, Kids: []api.TM{fail(v(1)), fail(v(1)), fail(fn(v(1), v(2)))}}, 2, v(1), api.TM{Kind: api.XOpen, N: 9, Kids: []api.TM{fail(v(1)), fail(v(9)), fail(fn(v(9), v(1)))}}},
		{api.TM{Kind: 99, N: 2, Types: []api.TT{v(2)}, Kids: []api.TM{fail(v(2))}}, 2, unit(), api.TM{Kind: 99, N: 2, Types: []api.TT{unit()}, Kids: []api.TM{fail(unit())}}},
	} {
		got := target.PutIn(c.m, c.n, c.by)
		if plainTerm0(got) != plainTerm0(c.want) {
			t.Errorf("PutIn(%s, %d, %s): %s, want %s", target.Show(c.m), c.n, target.Text(c.by), plainTerm0(got), plainTerm0(c.want))
		}
	}
}

// TestP904ByChance: against putting in where bound numbers are told by how far their binders are away, so that nothing can be caught.
func TestP904ByChance(t *testing.T) {
	r := rand.New(rand.NewSource(904))
	for range 20000 {
		a, by, n := chosen(r, plainType, wildType)(r, 6), plainType(r, 3), r.Intn(5)-1
		got := target.Put(a, n, by)
		if plainType0(got) != plainly(a, nil, &putting{n, by}) {
			t.Fatalf("Put(%s, %d, %s): %s", target.Text(a), n, target.Text(by), target.Text(got))
		}
		if again := target.Put(a, n, by); tell(again) != tell(got) {
			t.Fatalf("Put(%s, %d, %s): not always the same", target.Text(a), n, target.Text(by))
		}
	}
	for range 6000 {
		m, by, n := chosen(r, plainTerm, wildTerm)(r, 5), plainType(r, 3), r.Intn(5)-1
		got := target.PutIn(m, n, by)
		if plainTerm0(got) != plainlyIn(m, nil, nil, &putting{n, by}) {
			t.Fatalf("PutIn(%s, %d, %s): %s", target.Show(m), n, target.Text(by), target.Show(got))
		}
	}
}

// TestP907Put: a number that is not free changes nothing; what is free then is what was free, without it, and what is free in what is put in; right ones stay right.
func TestP907Put(t *testing.T) {
	r := rand.New(rand.NewSource(9071))
	var there, missing int
	for range 10000 {
		a, by, n := plainType(r, 6), plainType(r, 4), r.Intn(5)-1
		got := target.Put(a, n, by)
		want := free(a)
		if want[n] == 0 {
			missing++
			if !target.SameType(got, a) {
				t.Fatalf("Put(%s, %d, %s): %s", target.Text(a), n, target.Text(by), target.Text(got))
			}
		} else {
			there++
			delete(want, n)
			maps.Copy(want, free(by))
		}
		if !slices.Equal(target.FreeTypes(got), rising(want)) {
			t.Fatalf("Put(%s, %d, %s): %s, free: %v", target.Text(a), n, target.Text(by), target.Text(got), target.FreeTypes(got))
		}
		if e := target.RightType(got); e != api.OK {
			t.Fatalf("Put(%s, %d, %s): %v", target.Text(a), n, target.Text(by), e)
		}
		if !target.SameType(target.Put(a, n, v(n)), a) {
			t.Fatalf("Put(%s, %d, itself): %s", target.Text(a), n, target.Text(target.Put(a, n, v(n))))
		}
	}
	if there < 1000 || missing < 1000 {
		t.Errorf("%d times it was free, %d times not", there, missing)
	}
}

// TestP904One: types that are one stay one, whatever is put in.
func TestP904One(t *testing.T) {
	r := rand.New(rand.NewSource(9041))
	for range 5000 {
		a := plainType(r, 5)
		b := other(r, a, nil)
		if !target.SameType(a, b) {
			continue
		}
		by, n := plainType(r, 3), r.Intn(4)-1
		if !target.SameType(target.Put(a, n, by), target.Put(b, n, by)) {
			t.Fatalf("Put of %s and of %s, %d, %s", target.Text(a), target.Text(b), n, target.Text(by))
		}
	}
}

// TestArgumentsStay: nothing that is handed in is written, its spare room neither, also by calls on what came of it.
func TestArgumentsStay(t *testing.T) {
	r := rand.New(rand.NewSource(4))
	for range 3000 {
		a, by := roomy(chosen(r, plainType, wildType)(r, 5)), roomy(plainType(r, 3))
		m := roomyTerm(chosen(r, plainTerm, wildTerm)(r, 4))
		before, beforeBy, beforeTerm := tell(a), tell(by), tellTerm(m)
		n := r.Intn(4) - 1
		first := target.Put(a, n, by)
		firstText := target.Text(first)
		inTerm := target.PutIn(m, n, by)
		inTermText := target.Show(inTerm)
		target.Put(first, n+1, a)
		target.Put(a, n+1, first)
		target.PutIn(inTerm, n+1, first)
		target.RightType(a)
		target.RightTerm(m)
		target.SameType(a, by)
		target.SameTerm(m, inTerm)
		target.FreeTypes(a)
		target.FreeNames(m)
		target.FreeTypesIn(m)
		target.Size(a, 5)
		target.Nodes(m, 5)
		target.Text(a)
		target.Show(m)
		if tell(a) != before || tell(by) != beforeBy || tellTerm(m) != beforeTerm {
			t.Fatalf("an argument was written: %s, %s", brief(before), brief(beforeTerm))
		}
		if target.Text(first) != firstText || target.Show(inTerm) != inTermText {
			t.Fatalf("what came was written: %s, %s", brief(before), brief(beforeTerm))
		}
	}
}

// TestP904Deep: putting in below as many binders as may be nested, all of which would catch.
func TestP904Deep(t *testing.T) {
	const deep = 20000
	var frees []api.TT
	for i := range deep {
		frees = append(frees, v(i))
	}
	by := sum(frees...)
	a := nest(api.GAll, deep, 0, fn(v(deep-1), v(-1)))
	want := nest(api.GAll, deep, deep+1, fn(v(2*deep), by))
	if !target.SameType(target.Put(a, -1, by), want) {
		t.Error("deep binders that would catch")
	}
	if got := target.Put(chain(api.GFn, deepest, v(1)), 1, unit()); !target.SameType(got, chain(api.GFn, deepest, unit())) {
		t.Error("a deep type")
	}
	if got := target.PutIn(xchain(deepest, fail(v(1))), 1, unit()); !target.SameTerm(got, xchain(deepest, fail(unit()))) {
		t.Error("a deep term")
	}
}

// TestP904Deeper: types that are put into one another are nested far deeper than a right type may be.
func TestP904Deeper(t *testing.T) {
	const deeper = 1 << 20
	for _, kind := range []int{api.GRec, api.GMu} {
		a := target.Put(chain(kind, deeper, v(-1)), -1, v(-2))
		if got := target.FreeTypes(a); !slices.Equal(got, []int{-2}) {
			t.Errorf("FreeTypes: %v", got)
		}
		if got := target.Size(a, deeper); got != deeper {
			t.Errorf("Size: %d", got)
		}
		if !target.SameType(a, chain(kind, deeper, v(-2))) || target.SameType(a, chain(kind, deeper, v(-1))) {
			t.Error("SameType")
		}
	}
}

// TestP904Great: what is put in may be great, and stand at many places.
func TestP904Great(t *testing.T) {
	by := sum(slices.Repeat([]api.TT{v(1)}, 100000)...)
	a := all(2, sum(slices.Repeat([]api.TT{v(0)}, 100000)...))
	got := target.Put(a, 0, by)
	if n := target.Size(got, 1000000); n != 1000001 {
		t.Errorf("Size: %d", n)
	}
	if n := target.Nodes(target.PutIn(fail(a), 0, by), 1000000); n != 1000001 {
		t.Errorf("Nodes: %d", n)
	}
}
