package pattern_test

import (
	"fmt"
	"math"
	"testing"

	"wafer/api"
	"wafer/pattern"
)

// fitsText: what Fits answers.
func fitsText(names []string, parts []api.Value, ok bool) string {
	return fmt.Sprintf("%q %+v %v", names, parts, ok)
}

func wantFits(t *testing.T, p api.Pat, x api.Value, names []string, parts ...api.Value) {
	t.Helper()
	if got, want := fitsText(pattern.Fits(p, x)), fitsText(names, parts, true); got != want {
		t.Errorf("Fits(%s, %s): %s, want %s", brief(tell(p)), brief(tell(x)), brief(got), brief(want))
	}
}

func wantNone(t *testing.T, p api.Pat, x api.Value) {
	t.Helper()
	if got, want := fitsText(pattern.Fits(p, x)), fitsText(nil, nil, false); got != want {
		t.Errorf("Fits(%s, %s): %s, want nothing", brief(tell(p)), brief(tell(x)), brief(got))
	}
}

func texts(l ...string) []string { return l }

// TestP1504Example: the chapter's example.
func TestP1504Example(t *testing.T) {
	wantFits(t, con("Cons", two(name("x"), anything())), vcon("Cons", vpair(vint(1), vcon("Nil"))), texts("x"), vint(1))
}

// valuesOfAll: values of each kind.
func valuesOfAll() []api.Value {
	return []api.Value{
		vint(0), vint(1), vint(-1), vint(math.MaxInt64), vint(math.MinInt64), vbool(0), vbool(1), vunit(),
		vpair(vint(0), vint(1)), vpair(vunit(), vbool(1)), vpair(vpair(vint(1), vint(2)), vint(0)),
		vcon("A"), vcon("B"), vcon("A", vint(0)), vcon("A", vunit()), vcon("B", vint(0)), vcon("A", vcon("A")), vcon("B", vpair(vint(0), vint(1))), vcon(""),
	}
}

// TestP1503Kinds: each kind of pattern against each kind of value.
func TestP1503Kinds(t *testing.T) {
	for _, c := range []struct {
		p    api.Pat
		fits []api.Value
	}{
		{number(0), []api.Value{vint(0)}},
		{number(1), []api.Value{vint(1)}},
		{number(-1), []api.Value{vint(-1)}},
		{number(math.MaxInt64), []api.Value{vint(math.MaxInt64)}},
		{number(math.MinInt64), []api.Value{vint(math.MinInt64)}},
		{number(7), nil},
		{truth(), []api.Value{vbool(1)}},
		{untruth(), []api.Value{vbool(0)}},
		{nothing(), []api.Value{vunit()}},
		{two(anything(), anything()), []api.Value{vpair(vint(0), vint(1)), vpair(vunit(), vbool(1)), vpair(vpair(vint(1), vint(2)), vint(0))}},
		{two(number(0), anything()), []api.Value{vpair(vint(0), vint(1))}},
		{two(anything(), number(1)), []api.Value{vpair(vint(0), vint(1))}},
		{two(anything(), number(0)), []api.Value{vpair(vpair(vint(1), vint(2)), vint(0))}},
		{two(nothing(), truth()), []api.Value{vpair(vunit(), vbool(1))}},
		{two(nothing(), untruth()), nil},
		{two(two(number(1), number(2)), anything()), []api.Value{vpair(vpair(vint(1), vint(2)), vint(0))}},
		{two(two(number(2), number(1)), anything()), nil},
		{con("A"), []api.Value{vcon("A")}},
		{con("B"), []api.Value{vcon("B")}},
		{con("M.A"), []api.Value{vcon("A")}},
		{con("A.B"), []api.Value{vcon("B")}},
		{con("B.M.A"), []api.Value{vcon("A")}},
		{con("C"), nil},
		{con("A", anything()), []api.Value{vcon("A", vint(0)), vcon("A", vunit()), vcon("A", vcon("A"))}},
		{con("A", number(0)), []api.Value{vcon("A", vint(0))}},
		{con("A", nothing()), []api.Value{vcon("A", vunit())}},
		{con("A", con("A")), []api.Value{vcon("A", vcon("A"))}},
		{con("A", con("N.A")), []api.Value{vcon("A", vcon("A"))}},
		{con("A", con("B")), nil},
		{con("A", con("A", anything())), nil},
		{con("M.B", two(anything(), anything())), []api.Value{vcon("B", vpair(vint(0), vint(1)))}},
		{con("B", anything()), []api.Value{vcon("B", vint(0)), vcon("B", vpair(vint(0), vint(1)))}},
	} {
		count := 0
		for _, x := range valuesOfAll() {
			fits := false
			for _, y := range c.fits {
				fits = fits || tell(x) == tell(y)
			}
			if fits {
				count++
				wantFits(t, c.p, x, nil)
				wantFits(t, two(name("a"), two(c.p, name("b"))), vpair(vint(5), vpair(x, vunit())), texts("a", "b"), vint(5), vunit())
			} else {
				wantNone(t, c.p, x)
				wantNone(t, two(name("a"), two(c.p, name("b"))), vpair(vint(5), vpair(x, vunit())))
				wantNone(t, con("C", two(c.p, name("b"))), vcon("C", vpair(x, vunit())))
			}
		}
		if count != len(c.fits) {
			t.Errorf("%s: %d values, want %d", tell(c.p), count, len(c.fits))
		}
	}
	for _, x := range valuesOfAll() {
		wantFits(t, anything(), x, nil)
		wantFits(t, name("x"), x, texts("x"), x)
		wantFits(t, two(name("x"), con("A", name("y"))), vpair(x, vcon("A", x)), texts("x", "y"), x, x)
	}
}

// TestP1504Order: names from the left, with the parts that they stand for; also one that stands twice.
func TestP1504Order(t *testing.T) {
	x, y, z := name("x"), name("y"), name("z")
	wantFits(t, two(two(z, y), x), vpair(vpair(vint(1), vint(2)), vint(3)), texts("z", "y", "x"), vint(1), vint(2), vint(3))
	wantFits(t, two(x, con("M.C", two(z, anything()))), vpair(vbool(1), vcon("C", vpair(vcon("D", vint(7)), vunit()))), texts("x", "z"), vbool(1), vcon("D", vint(7)))
	wantFits(t, two(x, x), vpair(vint(1), vint(2)), texts("x", "x"), vint(1), vint(2))
	wantFits(t, two(x, two(y, x)), vpair(vint(1), vpair(vint(2), vint(3))), texts("x", "y", "x"), vint(1), vint(2), vint(3))
	wantFits(t, con("C", x), vcon("C", vpair(vint(1), vint(2))), texts("x"), vpair(vint(1), vint(2)))
	// What was bound ahead of what does not fit is not told.
	wantNone(t, two(x, number(1)), vpair(vint(1), vint(2)))
	wantNone(t, two(two(x, y), con("C", two(z, nothing()))), vpair(vpair(vint(1), vint(2)), vcon("C", vpair(vint(1), vint(2)))))
}

// TestP1504Truths: a truth is 1 or 0 by its N.
func TestP1504Truths(t *testing.T) {
	for _, n := range []int64{2, -1, math.MaxInt64, math.MinInt64} {
		wantNone(t, truth(), vbool(n))
		wantNone(t, untruth(), vbool(n))
		wantFits(t, anything(), vbool(n), nil)
	}
	wantNone(t, truth(), vint(1))
	wantNone(t, untruth(), vint(0))
	wantNone(t, number(1), vbool(1))
	wantNone(t, number(0), vbool(0))
	wantNone(t, nothing(), vbool(0))
	wantNone(t, number(0), vunit())
}

// TestP1504NotRight: patterns that are not right: of another kind, or with another number of Kids, they don't fit; else they fit as they are.
func TestP1504NotRight(t *testing.T) {
	a := anything()
	for _, x := range append(valuesOfAll(), vcon("A", vint(0), vint(0)), api.Value{Kind: api.VPair}, api.Value{}) {
		for _, p := range []api.Pat{
			{}, pat(0), pat(-1), pat(9), pat(math.MaxInt), pat(math.MinInt), pat(0, a), pat(9, a, a),
			pat(api.PAny, a), pat(api.PAny, a, a), pat(api.PVar, a), {Kind: api.PVar, Name: "x", Kids: []api.Pat{a}}, {Kind: api.PInt, N: x.N, Kids: []api.Pat{a}},
			pat(api.PTrue, a), pat(api.PFalse, a), pat(api.PUnit, a), pat(api.PUnit, a, a),
			pat(api.PPair), pat(api.PPair, a), pat(api.PPair, a, a, a),
			{Kind: api.PCon, Path: []string{x.Name}, Kids: []api.Pat{a, a}}, {Kind: api.PCon, Path: []string{x.Name}, Kids: []api.Pat{a, a, a}},
			{Kind: api.PCon}, {Kind: api.PCon, Path: []string{}}, {Kind: api.PCon, Kids: []api.Pat{a}},
		} {
			wantNone(t, p, x)
			wantNone(t, two(p, a), vpair(x, x))
			wantNone(t, two(a, p), vpair(x, x))
			wantNone(t, con("C", p), vcon("C", x))
		}
	}
	// Names and paths are not asked for; other fields neither.
	for _, s := range []string{"", "X", "if", "$0", "\xff"} {
		wantFits(t, name(s), vint(1), texts(s), vint(1))
		wantFits(t, api.Pat{Kind: api.PCon, Path: []string{"a", "", s}}, vcon(s), nil)
	}
	wantFits(t, api.Pat{Kind: api.PAny, Name: "x", N: 3, Path: []string{"A"}}, vunit(), nil)
	wantFits(t, api.Pat{Kind: api.PVar, Name: "x", N: 3, Path: []string{"A"}}, vunit(), texts("x"), vunit())
	wantFits(t, api.Pat{Kind: api.PInt, Name: "x", N: -3}, vint(-3), nil)
	wantFits(t, api.Pat{Kind: api.PCon, Path: make([]string, 40)}, vcon(""), nil)
	// Values with another number of Kids.
	wantNone(t, two(a, a), api.Value{Kind: api.VPair, Kids: []api.Value{vint(0)}})
	wantNone(t, two(a, a), api.Value{Kind: api.VPair, Kids: []api.Value{vint(0), vint(0), vint(0)}})
	wantNone(t, con("A", a), vcon("A", vint(0), vint(0)))
	wantNone(t, con("A"), vcon("A", vint(0), vint(0)))
}

// wildValue: a value by chance, right or not.
func (m *maker) wildValue(x api.Value) api.Value {
	if len(x.Kids) > 0 && m.Intn(4) > 0 {
		kids := append([]api.Value(nil), x.Kids...)
		i := m.Intn(len(kids))
		kids[i] = m.wildValue(kids[i])
		x.Kids = kids
		return x
	}
	switch m.Intn(5) {
	case 0:
		x.Kind = m.Intn(7)
	case 1:
		x.N = int64(m.Intn(4) - 1)
	case 2:
		x.Name = chosen(m, "Nil", "Cons", "Red", "End", "")
	case 3:
		x.Kids = nil
	case 4:
		x.Kids = append([]api.Value{vint(1)}, x.Kids...)
	}
	return x
}

// TestP1504Chance: patterns and values by chance, right and wild, against the chapter's words.
func TestP1504Chance(t *testing.T) {
	fits, others, bound := 0, 0, 0
	for seed := range int64(40000) {
		m := newMaker(seed)
		of := m.plain(4)
		p := m.patOf(of, 9)
		x := m.like(p, of, 5)
		if seed%2 == 1 {
			for range m.Intn(3) {
				p = m.spoil(p)
			}
			for range m.Intn(3) {
				x = m.wildValue(x)
			}
		}
		names, parts, ok := plainFits(p, x)
		if got, want := fitsText(pattern.Fits(p, x)), fitsText(names, parts, ok); got != want {
			t.Fatalf("%d: Fits(%s, %s): %s, want %s", seed, brief(tell(p)), brief(tell(x)), brief(got), brief(want))
		}
		if ok {
			fits++
		} else {
			others++
		}
		if len(names) > 1 {
			bound++
		}
	}
	if fits < 5000 || others < 5000 || bound < 2000 {
		t.Errorf("%d that fit, %d with several names, %d others: the test does not try much", fits, bound, others)
	}
}
