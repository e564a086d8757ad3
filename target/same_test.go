package target_test

import (
	"math"
	"math/rand"
	"testing"

	"wafer/api"
	"wafer/target"
)

// heldTypes: types, and for each two whether they are one.
func heldTypes(t *testing.T, a, b api.TT, want bool) {
	t.Helper()
	if target.SameType(a, b) != want || target.SameType(b, a) != want {
		t.Errorf("SameType(%s, %s): not %v", brief(plainType0(a)), brief(plainType0(b)), want)
	}
	m, o := fail(a), fail(b)
	if target.SameTerm(m, o) != want || (target.Show(m) == target.Show(o)) != want {
		t.Errorf("SameTerm, Show of XFail(%s), XFail(%s): not %v", brief(plainType0(a)), brief(plainType0(b)), want)
	}
}

func heldTerms(t *testing.T, a, b api.TM, want bool) {
	t.Helper()
	if target.SameTerm(a, b) != want || target.SameTerm(b, a) != want {
		t.Errorf("SameTerm(%s, %s): not %v", brief(plainTerm0(a)), brief(plainTerm0(b)), want)
	}
	if (target.Show(a) == target.Show(b)) != want {
		t.Errorf("Show of %s and %s: %q, %q", brief(plainTerm0(a)), brief(plainTerm0(b)), brief(target.Show(a)), brief(target.Show(b)))
	}
}

func TestP902Examples(t *testing.T) {
	heldTypes(t, all(1, fn(v(1), v(2))), all(7, fn(v(7), v(2))), true)
	heldTypes(t, all(1, fn(v(1), v(2))), all(7, fn(v(7), v(3))), false)
}

// TestP902Types: what each kind binds, in each way that two numbers may stand to one another.
func TestP902Types(t *testing.T) {
	for _, kind := range []int{api.GMu, api.GAll, api.GEx} {
		b := func(n int, kid api.TT) api.TT { return tt(kind, n, kid) }
		for _, c := range []struct {
			x, y api.TT
			want bool
		}{
			{b(1, v(1)), b(2, v(2)), true},
			{b(1, v(1)), b(-5, v(-5)), true},
			{b(math.MinInt, v(math.MinInt)), b(math.MaxInt, v(math.MaxInt)), true},
			{b(1, v(1)), b(2, v(1)), false},
			{b(1, v(2)), b(3, v(2)), true},
			{b(1, v(2)), b(2, v(2)), false},
			{b(1, integer()), b(2, integer()), true},
			{b(1, b(1, v(1))), b(1, b(2, v(2))), true},
			{b(1, b(1, v(1))), b(1, b(2, v(1))), false},
			{b(1, b(2, fn(v(1), v(2)))), b(2, b(1, fn(v(2), v(1)))), true},
			{b(1, b(2, fn(v(1), v(2)))), b(1, b(2, fn(v(2), v(1)))), false},
			// What an inner binder hid is there again behind it, and what it bound is free there.
			{b(1, fn(b(1, v(1)), v(1))), b(3, fn(b(4, v(4)), v(3))), true},
			{b(1, fn(b(2, v(2)), v(2))), b(3, fn(b(2, v(2)), v(2))), true},
			{b(1, fn(b(2, v(2)), v(2))), b(3, fn(b(4, v(4)), v(4))), false},
			{fn(b(1, v(1)), v(1)), fn(b(2, v(2)), v(1)), true},
			{fn(b(1, v(1)), v(1)), fn(b(2, v(2)), v(2)), false},
			{fn(v(1), b(1, v(1))), fn(v(1), b(2, v(2))), true},
			{pair(b(1, v(1)), b(2, v(1))), pair(b(3, v(3)), b(1, v(1))), false},
			{rec("a b", b(1, v(1)), v(1)), rec("a b", b(2, v(2)), v(1)), true},
			{sum(v(1), b(1, v(1)), v(1)), sum(v(1), b(9, v(9)), v(1)), true},
			{sum(v(1), b(1, v(1)), v(1)), sum(v(1), b(9, v(9)), v(9)), false},
		} {
			heldTypes(t, c.x, c.y, c.want)
		}
	}
	kinds := []api.TT{integer(), boolean(), unit(), v(1), v(2), fn(unit(), unit()), pair(unit(), unit()), rec(""), rec("a", unit()), rec("b", unit()), rec("a b", unit(), unit()), sum(), sum(unit()), sum(unit(), unit()), mu(1, unit()), all(1, unit()), some(1, unit()), mu(1, v(1)), all(1, v(1)), some(1, v(1)), {}}
	for i, a := range kinds {
		for j, b := range kinds {
			heldTypes(t, a, b, i == j)
			heldTypes(t, fn(unit(), a), fn(unit(), b), i == j)
			heldTypes(t, all(1, fn(a, unit())), all(1, fn(b, unit())), i == j)
		}
	}
}

// TestP902NotRight: data that is not right is held in all its fields; binders bind in as many Kids as there are.
func TestP902NotRight(t *testing.T) {
	for _, kind := range []int{api.GMu, api.GAll, api.GEx} {
		heldTypes(t, tt(kind, 1), tt(kind, 2), true)
		heldTypes(t, tt(kind, 1, v(1), v(1), v(3)), tt(kind, 2, v(2), v(2), v(3)), true)
		heldTypes(t, tt(kind, 1, v(1), v(1)), tt(kind, 2, v(2), v(1)), false)
		heldTypes(t, tt(kind, 1, v(1)), tt(kind, 1, v(1), v(1)), false)
		heldTypes(t, fn(tt(kind, 1), v(1)), fn(tt(kind, 2), v(2)), false)
		heldTypes(t, api.TT{Kind: kind, N: 1, Labels: []string{"a"}}, api.TT{Kind: kind, N: 2, Labels: []string{"a"}}, true)
		heldTypes(t, api.TT{Kind: kind, N: 1, Labels: []string{"a"}}, api.TT{Kind: kind, N: 2}, false)
	}
	for kind := -1; kind <= 12; kind++ {
		if !isBinder(kind) {
			heldTypes(t, tt(kind, 1), tt(kind, 2), false)
		}
		heldTypes(t, tt(kind, 1, v(1)), tt(kind, 1), false)
		heldTypes(t, api.TT{Kind: kind, Labels: []string{"a"}}, api.TT{Kind: kind, Labels: []string{"b"}}, false)
		heldTypes(t, api.TT{Kind: kind, Labels: []string{"a", "b"}}, api.TT{Kind: kind, Labels: []string{"b", "a"}}, false)
		heldTypes(t, api.TT{Kind: kind, Labels: []string{"a", "b"}}, api.TT{Kind: kind, Labels: []string{"a b"}}, false)
	}
	heldTypes(t, all(1, tt(api.GVar, 1, v(1))), all(2, tt(api.GVar, 2, v(2))), true)
	heldTypes(t, all(1, tt(api.GVar, 1, v(1))), all(2, tt(api.GVar, 2, v(1))), false)
	heldTypes(t, all(1, tt(0, 1)), all(2, tt(0, 2)), false)
}

func TestP902Names(t *testing.T) {
	i := integer()
	for _, c := range []struct {
		a, b api.TM
		want bool
	}{
		{x("x"), x("x"), true}, {x("x"), x("y"), false},
		{lam("x", i, x("x")), lam("y", i, x("y")), true},
		{lam("x", i, x("x")), lam("y", i, x("x")), false},
		{lam("x", i, x("z")), lam("y", i, x("z")), true},
		{lam("x", i, x("z")), lam("z", i, x("z")), false},
		{lam("x", i, x("x")), lam("x", boolean(), x("x")), false},
		{lam("x", i, lam("x", i, x("x"))), lam("x", i, lam("y", i, x("y"))), true},
		{lam("x", i, lam("x", i, x("x"))), lam("x", i, lam("y", i, x("x"))), false},
		{lam("x", i, app(lam("x", i, x("x")), x("x"))), lam("y", i, app(lam("z", i, x("z")), x("y"))), true},
		{app(lam("x", i, x("x")), x("x")), app(lam("y", i, x("y")), x("y")), false},
		{lam("", i, x("")), lam("y", i, x("y")), true},

		{fix("f", "x", i, i, app(x("f"), x("x"))), fix("g", "y", i, i, app(x("g"), x("y"))), true},
		{fix("f", "x", i, i, app(x("f"), x("x"))), fix("x", "f", i, i, app(x("x"), x("f"))), true},
		{fix("f", "x", i, i, app(x("f"), x("x"))), fix("f", "x", i, i, app(x("x"), x("f"))), false},
		{fix("f", "f", i, i, x("f")), fix("g", "x", i, i, x("x")), true},
		{fix("f", "f", i, i, x("f")), fix("g", "x", i, i, x("g")), false},
		{fix("f", "f", i, i, x("z")), fix("g", "x", i, i, x("z")), true},
		{fix("f", "x", i, unit(), x("f")), fix("f", "x", unit(), i, x("f")), false},
		{app(fix("f", "x", i, i, x("f")), x("f")), app(fix("g", "x", i, i, x("g")), x("f")), true},
		{app(fix("f", "f", i, i, x("f")), x("f")), app(fix("g", "x", i, i, x("x")), x("g")), false},

		{let("x", xint(1), x("x")), let("y", xint(1), x("y")), true},
		{let("x", x("x"), x("x")), let("y", x("x"), x("y")), true},
		{let("x", x("x"), x("x")), let("y", x("y"), x("y")), false},
		{lam("x", i, let("x", x("x"), x("x"))), lam("a", i, let("b", x("a"), x("b"))), true},
		{lam("x", i, let("x", x("x"), x("x"))), lam("a", i, let("b", x("a"), x("a"))), false},

		{open(1, "x", x("p"), x("x")), open(2, "y", x("p"), x("y")), true},
		{open(1, "x", x("x"), x("x")), open(2, "y", x("x"), x("y")), true},
		{open(1, "x", x("x"), x("x")), open(2, "y", x("y"), x("y")), false},
		{open(1, "x", x("p"), fail(v(1))), open(2, "x", x("p"), fail(v(2))), true},
		{open(1, "x", x("p"), fail(v(1))), open(2, "x", x("p"), fail(v(1))), false},
		{open(1, "x", fail(v(1)), fail(v(1))), open(2, "x", fail(v(1)), fail(v(2))), true},
		{open(1, "x", fail(v(1)), fail(v(1))), open(2, "x", fail(v(2)), fail(v(2))), false},

		{xcase("x y", xint(0), x("x"), x("y")), xcase("a b", xint(0), x("a"), x("b")), true},
		{xcase("x y", xint(0), x("x"), x("y")), xcase("a a", xint(0), x("a"), x("a")), true},
		{xcase("x y", xint(0), x("x"), x("y")), xcase("y x", xint(0), x("x"), x("y")), false},
		{xcase("x y", xint(0), x("y"), x("x")), xcase("x z", xint(0), x("y"), x("x")), true},
		{xcase("x y", xint(0), x("y"), x("x")), xcase("y x", xint(0), x("y"), x("x")), false},
		{xcase("x", x("x"), x("x")), xcase("y", x("x"), x("y")), true},
		{xcase("x", x("x"), x("x")), xcase("y", x("y"), x("y")), false},
		{xcase(""), xcase(""), true},
		{xcase("x", xint(0), x("x")), xcase("x x", xint(0), x("x"), x("x")), false},

		{xall(1, fail(v(1))), xall(2, fail(v(2))), true},
		{xall(1, fail(v(1))), xall(2, fail(v(1))), false},
		{xall(1, fail(v(3))), xall(2, fail(v(3))), true},
		{xall(1, fail(v(3))), xall(3, fail(v(3))), false},
		{xall(1, fail(all(1, v(1)))), xall(1, fail(all(2, v(2)))), true},
		{xall(1, fail(all(1, v(1)))), xall(1, fail(all(2, v(1)))), false},
		{xall(1, fail(fn(mu(1, v(1)), v(1)))), xall(5, fail(fn(mu(6, v(6)), v(5)))), true},
		{xall(1, lam("x", v(1), x("x"))), xall(2, lam("x", v(2), x("x"))), true},
		{xall(1, xall(2, fail(fn(v(1), v(2))))), xall(2, xall(1, fail(fn(v(2), v(1))))), true},
		{xall(1, xall(2, fail(fn(v(1), v(2))))), xall(1, xall(2, fail(fn(v(2), v(1))))), false},
		{app(xall(1, fail(v(1))), fail(v(1))), app(xall(2, fail(v(2))), fail(v(1))), true},
		{app(xall(1, fail(v(1))), fail(v(1))), app(xall(2, fail(v(2))), fail(v(2))), false},

		// Labels of records are no names: they stay.
		{xrec("a b", x("a"), x("b")), xrec("a b", x("a"), x("b")), true},
		{xrec("a", xint(1)), xrec("b", xint(1)), false},
		{lam("a", i, api.TM{Kind: api.XSel, Name: "a", Kids: []api.TM{x("a")}}), lam("b", i, api.TM{Kind: api.XSel, Name: "a", Kids: []api.TM{x("b")}}), true},
		{lam("a", i, api.TM{Kind: api.XSel, Name: "a", Kids: []api.TM{x("a")}}), lam("b", i, api.TM{Kind: api.XSel, Name: "b", Kids: []api.TM{x("b")}}), false},
		{lam("a", i, xrec("a", x("a"))), lam("b", i, xrec("b", x("b"))), false},
	} {
		heldTerms(t, c.a, c.b, c.want)
	}
}

// TestP902TermsNotRight: fields that a kind does not name count, and binders bind in as many Kids as there are.
func TestP902TermsNotRight(t *testing.T) {
	for kind := -1; kind <= 27; kind++ {
		base := api.TM{Kind: kind}
		for i, o := range []api.TM{
			{Kind: kind, Int: 1}, {Kind: kind, Types: []api.TT{unit()}}, {Kind: kind, Kids: []api.TM{xint(1)}}, {Kind: kind, Labels: []string{""}}, {Kind: kind + 1},
		} {
			heldTerms(t, base, o, false)
			heldTerms(t, tm(api.XTick, base), tm(api.XTick, o), false)
			if i == 0 {
				heldTerms(t, o, o, true)
			}
		}
		heldTerms(t, base, api.TM{Kind: kind, N: 1}, kind == api.XAll || kind == api.XOpen)
		heldTerms(t, base, api.TM{Kind: kind, Name: "n"}, kind == api.XLam || kind == api.XFix || kind == api.XLet || kind == api.XOpen)
		heldTerms(t, api.TM{Kind: kind, Labels: []string{"a"}}, api.TM{Kind: kind, Labels: []string{"b"}}, kind == api.XFix || kind == api.XCase)
	}
	i := []api.TT{integer()}
	more := func(kind, n int, name string, kids ...api.TM) api.TM {
		return api.TM{Kind: kind, N: n, Name: name, Types: i, Kids: kids}
	}
	for _, kind := range []int{api.XLam, api.XFix} {
		heldTerms(t, more(kind, 0, "x", x("x"), x("x"), x("z")), more(kind, 0, "y", x("y"), x("y"), x("z")), true)
		heldTerms(t, more(kind, 0, "x", x("x"), x("x")), more(kind, 0, "y", x("y"), x("x")), false)
	}
	heldTerms(t, more(api.XAll, 1, "", fail(v(1)), fail(v(1))), more(api.XAll, 2, "", fail(v(2)), fail(v(2))), true)
	heldTerms(t, more(api.XLet, 0, "x", x("x")), more(api.XLet, 0, "y", x("x")), true)
	heldTerms(t, more(api.XLet, 0, "x", x("x")), more(api.XLet, 0, "y", x("y")), false)
	heldTerms(t, more(api.XOpen, 1, "x", x("x"), x("x"), fail(v(1))), more(api.XOpen, 2, "y", x("x"), x("y"), fail(v(2))), true)
	heldTerms(t, xcase("x y z", x("x"), x("x")), xcase("a b c", x("x"), x("a")), true)
	heldTerms(t, xcase("x", x("x"), x("x"), x("x")), xcase("a", x("x"), x("a"), x("x")), true)
	heldTerms(t, xcase("x", x("x"), x("x"), x("x")), xcase("a", x("x"), x("a"), x("a")), false)
	// What an XAll binds stands in its Kids, not in Types that it should not have.
	heldTerms(t, api.TM{Kind: api.XAll, N: 1, Types: []api.TT{v(1)}}, api.TM{Kind: api.XAll, N: 2, Types: []api.TT{v(1)}}, true)
	heldTerms(t, api.TM{Kind: api.XAll, N: 1, Types: []api.TT{v(1)}}, api.TM{Kind: api.XAll, N: 2, Types: []api.TT{v(2)}}, false)
}

// other: another number for a type's binders, by chance, with what they bind; it may be caught.
func other(r *rand.Rand, t api.TT, as map[int]int) api.TT {
	out := api.TT{Kind: t.Kind, N: t.N, Labels: t.Labels}
	inner := as
	if n, ok := as[t.N]; ok && t.Kind == api.GVar {
		out.N = n
	}
	if isBinder(t.Kind) {
		out.N = r.Intn(8) - 2
		inner = with(as, t.N, out.N)
	}
	for _, kid := range t.Kids {
		out.Kids = append(out.Kids, other(r, kid, inner))
	}
	return out
}

func with[K comparable](m map[K]K, key, to K) map[K]K {
	out := map[K]K{key: to}
	for k, v := range m {
		if k != key {
			out[k] = v
		}
	}
	return out
}

// otherTerm: the same of a term's numbers and names.
func otherTerm(r *rand.Rand, m api.TM, as map[int]int, names map[string]string) api.TM {
	out := m
	out.Labels = append([]string{}, m.Labels...)
	if name, ok := names[m.Name]; ok && m.Kind == api.XVar {
		out.Name = name
	}
	switch m.Kind {
	case api.XLam, api.XLet, api.XFix, api.XOpen:
		out.Name = chosen(r, "f", "g", "h", "k", "l")
	}
	if m.Kind == api.XAll || m.Kind == api.XOpen {
		out.N = r.Intn(8) - 2
	}
	if m.Kind == api.XFix || m.Kind == api.XCase {
		for i := range out.Labels {
			if m.Kind == api.XCase || i == 0 {
				out.Labels[i] = chosen(r, "f", "g", "h", "k", "l")
			}
		}
	}
	out.Types, out.Kids = nil, nil
	for _, t := range m.Types {
		out.Types = append(out.Types, other(r, t, as))
	}
	for i, kid := range m.Kids {
		numbers, bound := boundIn(m, i)
		_, given := boundIn(out, i)
		innerAs, inner := as, names
		for range numbers {
			innerAs = with(innerAs, m.N, out.N)
		}
		for j := range bound {
			inner = with(inner, bound[j], given[j])
		}
		out.Kids = append(out.Kids, otherTerm(r, kid, innerAs, inner))
	}
	return out
}

// TestP902ByChance: types and terms against others that are laid out alike, of which some are one with them.
func TestP902ByChance(t *testing.T) {
	r := rand.New(rand.NewSource(902))
	var ones, twos int
	tally := func(same bool) bool {
		if same {
			ones++
		} else {
			twos++
		}
		return same
	}
	for range 6000 {
		a := chosen(r, plainType, wildType)(r, 5)
		for _, b := range []api.TT{other(r, a, nil), other(r, a, nil), plainType(r, 2)} {
			heldTypes(t, a, b, tally(plainType0(a) == plainType0(b)))
		}
		m := chosen(r, plainTerm, wildTerm)(r, 4)
		for _, o := range []api.TM{otherTerm(r, m, nil, nil), otherTerm(r, m, nil, nil), otherTerm(r, m, nil, nil), plainTerm(r, 2)} {
			heldTerms(t, m, o, tally(plainTerm0(m) == plainTerm0(o)))
		}
		if t.Failed() {
			return
		}
	}
	if ones < 5000 || twos < 5000 {
		t.Errorf("%d were one, %d not", ones, twos)
	}
}

// TestP907Equality: each is one with itself; turned round it stays; it goes on through a third one.
func TestP907Equality(t *testing.T) {
	r := rand.New(rand.NewSource(907))
	for range 400 {
		first := wildType(r, 4)
		l := []api.TT{first, roomy(first)}
		for range 6 {
			l = append(l, other(r, chosen(r, l...), nil))
		}
		for _, a := range l {
			if !target.SameType(a, a) {
				t.Fatalf("%s is not one with itself", plainType0(a))
			}
			for _, b := range l {
				ab := target.SameType(a, b)
				if ab != target.SameType(b, a) {
					t.Fatalf("%s, %s: turned round it changes", plainType0(a), plainType0(b))
				}
				for _, c := range l {
					if ab && target.SameType(b, c) != target.SameType(a, c) {
						t.Fatalf("%s, %s, %s: it does not go on", plainType0(a), plainType0(b), plainType0(c))
					}
				}
			}
		}
	}
}

// nest: binders that are nested so deep, each with a variable of its own and one of the outermost, counting on from a number.
func nest(kind, depth, from int, end api.TT) api.TT {
	for i := depth - 1; i >= 0; i-- {
		end = tt(kind, from+i, pair(pair(v(from+i), v(from)), end))
	}
	return end
}

// xnest: names that are bound in one another so deep, each with a variable.
func xnest(depth int, name func(int) string, end api.TM) api.TM {
	for i := depth - 1; i >= 0; i-- {
		end = lam(name(i), v(i), app(app(x(name(i)), x(name(0))), end))
	}
	return end
}

// TestP902Deep: as many binders as may be nested, all of them named.
func TestP902Deep(t *testing.T) {
	const deep = 32000
	a, b, c := nest(api.GAll, deep, 0, v(0)), nest(api.GAll, deep, 7, v(7)), nest(api.GAll, deep, 7, v(6+deep))
	if !target.SameType(a, b) || target.SameType(a, c) || target.SameType(a, nest(api.GAll, deep, 7, v(6))) {
		t.Error("deep types")
	}
	first := func(i int) string { return "x" + string(rune('a'+i%26)) + string(rune(0x100+i)) }
	second := func(i int) string { return "y" + string(rune(0x100+i)) }
	m, o := xnest(deep, first, x(first(0))), xnest(deep, second, x(second(0)))
	if !target.SameTerm(m, o) || target.SameTerm(m, xnest(deep, second, x(second(deep-1)))) {
		t.Error("deep terms")
	}
}
