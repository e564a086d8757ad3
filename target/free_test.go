package target_test

import (
	"maps"
	"math"
	"math/rand"
	"slices"
	"testing"

	"wafer/api"
	"wafer/target"
)

// free: the numbers that are free in a type, naively.
func free(t api.TT) map[int]int {
	out := map[int]int{}
	if t.Kind == api.GVar {
		out[t.N] = 1
	}
	for _, kid := range t.Kids {
		maps.Copy(out, free(kid))
	}
	if isBinder(t.Kind) {
		delete(out, t.N)
	}
	return out
}

// freeIn: the numbers and names that are free in a term, naively.
func freeIn(m api.TM) (map[int]int, map[string]int) {
	out, outNames := map[int]int{}, map[string]int{}
	if m.Kind == api.XVar {
		outNames[m.Name] = 1
	}
	for _, t := range m.Types {
		maps.Copy(out, free(t))
	}
	for i, kid := range m.Kids {
		in, inNames := freeIn(kid)
		numbers, names := boundIn(m, i)
		for _, n := range numbers {
			delete(in, n)
		}
		for _, name := range names {
			delete(inNames, name)
		}
		maps.Copy(out, in)
		maps.Copy(outNames, inNames)
	}
	return out, outNames
}

func rising[K int | string](m map[K]int) []K { return slices.Sorted(maps.Keys(m)) }

func TestP903FreeTypes(t *testing.T) {
	for _, c := range []struct {
		x    api.TT
		want []int
	}{
		{integer(), nil}, {unit(), nil}, {boolean(), nil}, {rec(""), nil}, {sum(), nil}, {api.TT{}, nil},
		{v(5), []int{5}}, {v(0), []int{0}}, {v(-3), []int{-3}},
		{fn(v(2), v(1)), []int{1, 2}}, {fn(v(2), v(2)), []int{2}},
		{sum(v(10), v(9), v(-1), v(9), v(100)), []int{-1, 9, 10, 100}},
		{pair(v(math.MaxInt), v(math.MinInt)), []int{math.MinInt, math.MaxInt}},
		{rec("a b", v(3), rec("c", v(1))), []int{1, 3}},
		{all(1, fn(v(1), v(2))), []int{2}}, {mu(1, v(1)), nil}, {some(1, v(1)), nil}, {mu(1, v(2)), []int{2}},
		{fn(all(1, v(1)), v(1)), []int{1}}, {fn(v(1), all(1, v(1))), []int{1}},
		{all(1, all(2, sum(v(1), v(2), v(3)))), []int{3}},
		{all(1, fn(all(1, v(1)), v(1))), nil},
		{all(1, fn(all(2, v(2)), v(2))), []int{2}},
		{tt(api.GAll, 1, v(1), v(2), v(1)), []int{2}}, {tt(api.GAll, 1), nil},
		{tt(api.GVar, 1, v(2)), []int{1, 2}}, {all(1, tt(api.GVar, 1, v(2))), []int{2}},
		{tt(api.GInt, 4, v(2)), []int{2}}, {tt(0, 4, v(2)), []int{2}},
	} {
		if got := target.FreeTypes(c.x); !slices.Equal(got, c.want) {
			t.Errorf("FreeTypes(%s): %v, want %v", plainType0(c.x), got, c.want)
		}
		if got := target.FreeTypesIn(tm(api.XTick, fail(c.x))); !slices.Equal(got, c.want) {
			t.Errorf("FreeTypesIn of XFail(%s): %v, want %v", plainType0(c.x), got, c.want)
		}
	}
}

func TestP903FreeIn(t *testing.T) {
	i := integer()
	for _, c := range []struct {
		m     api.TM
		names []string
		types []int
	}{
		{lam("x", v(5), app(x("x"), x("y"))), []string{"y"}, []int{5}},
		{xint(3), nil, nil}, {x("x"), []string{"x"}, nil}, {x(""), []string{""}, nil},
		{app(x("b"), app(x("a"), x("B"))), []string{"B", "a", "b"}, nil},
		{app(x("x10"), app(x("x9"), x("x10"))), []string{"x10", "x9"}, nil},
		{app(x("\xff"), x("\xc3\xa4")), []string{"\xc3\xa4", "\xff"}, nil},
		{app(lam("x", i, x("x")), x("x")), []string{"x"}, nil},
		{app(x("x"), lam("x", i, x("x"))), []string{"x"}, nil},
		{lam("x", i, lam("x", i, x("x"))), nil, nil},
		{lam("x", i, app(lam("x", i, x("x")), x("x"))), nil, nil},
		{fix("f", "x", v(2), v(1), app(x("f"), app(x("x"), x("z")))), []string{"z"}, []int{1, 2}},
		{app(fix("f", "f", i, i, x("f")), x("f")), []string{"f"}, nil},
		{fix("f", "f", i, i, x("f")), nil, nil},
		{let("x", x("x"), x("x")), []string{"x"}, nil}, {let("x", x("y"), x("x")), []string{"y"}, nil},
		{open(1, "x", x("x"), x("x")), []string{"x"}, nil}, {open(1, "x", x("y"), app(x("x"), fail(v(1)))), []string{"y"}, nil},
		{open(1, "x", fail(v(1)), fail(v(1))), nil, []int{1}}, {open(1, "x", fail(v(2)), fail(v(3))), nil, []int{2, 3}},
		{xcase("x y", x("x"), x("x"), x("x")), []string{"x"}, nil},
		{xcase("x y", x("a"), x("x"), x("y")), []string{"a"}, nil},
		{xcase("x y", x("a"), x("y"), x("x")), []string{"a", "x", "y"}, nil},
		{xall(1, fail(fn(v(1), v(2)))), nil, []int{2}}, {app(xall(1, fail(v(1))), fail(v(1))), nil, []int{1}},
		{xall(1, fail(fn(all(1, v(1)), v(1)))), nil, nil},
		{xrec("a b", x("c"), xint(1)), []string{"c"}, nil},
		{api.TM{Kind: api.XSel, Name: "a", Kids: []api.TM{x("c")}}, []string{"c"}, nil},
		{api.TM{Kind: api.XPack, Types: []api.TT{v(9), some(4, fn(v(4), v(3)))}, Kids: []api.TM{x("c")}}, []string{"c"}, []int{3, 9}},
		{api.TM{Kind: api.XInt, Name: "q", Kids: []api.TM{x("c")}}, []string{"c"}, nil},
		{api.TM{Kind: api.XVar, Name: "q", Kids: []api.TM{x("c")}, Types: []api.TT{v(1)}}, []string{"c", "q"}, []int{1}},
		{api.TM{Kind: api.XLam, Name: "q", Kids: []api.TM{x("c"), x("q"), x("d")}}, []string{"c", "d"}, nil},
		{api.TM{Kind: api.XAll, N: 1, Types: []api.TT{v(1)}, Kids: []api.TM{fail(v(1)), fail(v(1))}}, nil, []int{1}},
		{api.TM{Kind: api.XFix, Name: "q", Kids: []api.TM{x("c"), x("q")}}, []string{"c"}, nil},
		{api.TM{Kind: api.XLet, Name: "q", Kids: []api.TM{x("q")}}, []string{"q"}, nil},
		{api.TM{Kind: api.XLet, Name: "q"}, nil, nil}, {api.TM{Kind: api.XCase, Labels: []string{"a"}}, nil, nil},
	} {
		if got := target.FreeNames(c.m); !slices.Equal(got, c.names) {
			t.Errorf("FreeNames(%s): %q, want %q", plainTerm0(c.m), got, c.names)
		}
		if got := target.FreeTypesIn(c.m); !slices.Equal(got, c.types) {
			t.Errorf("FreeTypesIn(%s): %v, want %v", plainTerm0(c.m), got, c.types)
		}
	}
}

func TestP903ByChance(t *testing.T) {
	r := rand.New(rand.NewSource(903))
	for range 8000 {
		a := chosen(r, plainType, wildType)(r, 6)
		if got, want := target.FreeTypes(a), rising(free(a)); !slices.Equal(got, want) {
			t.Fatalf("FreeTypes(%s): %v, want %v", brief(plainType0(a)), got, want)
		}
		m := chosen(r, plainTerm, wildTerm)(r, 5)
		numbers, names := freeIn(m)
		if got := target.FreeTypesIn(m); !slices.Equal(got, rising(numbers)) {
			t.Fatalf("FreeTypesIn(%s): %v, want %v", brief(plainTerm0(m)), got, rising(numbers))
		}
		if got := target.FreeNames(m); !slices.Equal(got, rising(names)) {
			t.Fatalf("FreeNames(%s): %q, want %q", brief(plainTerm0(m)), got, rising(names))
		}
	}
}

// TestP903Many: many numbers, and binders that are nested deep.
func TestP903Many(t *testing.T) {
	var l []api.TT
	for i := range 200000 {
		l = append(l, v(100000-i), v(i%7))
	}
	got := target.FreeTypes(sum(l...))
	if len(got) != 200000 || got[0] != 100000-199999 || got[len(got)-1] != 100000 || !slices.IsSorted(got) {
		t.Errorf("%d numbers", len(got))
	}
	if got := target.FreeTypes(nest(api.GMu, 32000, 0, v(32000))); !slices.Equal(got, []int{32000}) {
		t.Errorf("%v in deep binders", got)
	}
	name := func(i int) string { return "x" + string(rune(0x100+i)) }
	m := xnest(32000, name, x("z"))
	if got := target.FreeNames(m); !slices.Equal(got, []string{"z"}) {
		t.Errorf("%q in deep binders", got)
	}
	if got := target.FreeTypesIn(m); len(got) != 32000 {
		t.Errorf("%d numbers in deep binders", len(got))
	}
}

// TestP903NewMemory: what the caller writes into what was told is seen nowhere.
func TestP903NewMemory(t *testing.T) {
	a := sum(v(3), v(1), v(2))
	m := app(fail(a), app(x("b"), x("a")))
	for range 2 {
		numbers, inTerm, names := target.FreeTypes(a), target.FreeTypesIn(m), target.FreeNames(m)
		if !slices.Equal(numbers, []int{1, 2, 3}) || !slices.Equal(inTerm, numbers) || !slices.Equal(names, []string{"a", "b"}) {
			t.Errorf("%v, %v, %q", numbers, inTerm, names)
		}
		numbers = append(numbers[:0], 9, 9, 9, 9)
		inTerm = append(inTerm[:0], 9, 9, 9, 9)
		names = append(names[:0], "z", "z", "z")
		_, _, _ = numbers, inTerm, names
	}
}
