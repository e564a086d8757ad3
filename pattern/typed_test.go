package pattern_test

import (
	"slices"
	"testing"

	"wafer/api"
	"wafer/env"
	"wafer/kernel"
	"wafer/names"
	"wafer/pattern"
	"wafer/target"
	"wafer/trans"
	"wafer/types"
	"wafer/unify"
)

// closed: a type with closed types by chance in place of its metas; the same one for each meta.
func (m *maker) closed(s *unify.Store, t api.Type, by map[int]api.Type) api.Type {
	t, _ = s.Resolve(t)
	var from []int
	var to []api.Type
	for _, n := range types.Metas(t) {
		if _, ok := by[n]; !ok {
			by[n] = m.typeOf(3)
		}
		from, to = append(from, n), append(to, by[n])
	}
	t, _ = types.Replace(t, api.TMeta, from, to)
	return t
}

// turned: the target type of a closed type.
func turned(t *testing.T, x api.Type) api.TT {
	t.Helper()
	g, err := trans.Type(x)
	if err != api.OK {
		t.Fatalf("%s: %v", types.Text(x), err)
	}
	return g
}

// uses: a term of a type that has a type just if the names have the types that are told of them.
func uses(l []kernel.Bind, then api.TM) api.TM {
	for i := len(l) - 1; i >= 0; i-- {
		then = app(lam("$own", l[i].T, then), v(l[i].Name))
	}
	return then
}

// result: yes and no of one type, and what they need around them.
type result struct {
	yes, no api.TM
	t       api.TT
	needs   []kernel.Bind
}

func (m *maker) result(own []string) result {
	gint, gvar := api.TT{Kind: api.GInt}, api.TT{Kind: api.GVar, N: 2}
	thunk := api.TT{Kind: api.GFn, Kids: []api.TT{{Kind: api.GUnit}, gvar}}
	outer := "outer"
	if len(own) > 0 {
		// No means by it what it is outside.
		outer = own[m.Intn(len(own))]
	}
	return chosen(m,
		result{xint(1), xint(2), gint, nil},
		result{xint(1), api.TM{Kind: api.XFail, Types: []api.TT{gint}}, gint, nil},
		result{app(v("$0"), term(api.XUnit)), app(v("$0"), term(api.XUnit)), gvar, []kernel.Bind{{Name: "$0", T: thunk}}},
		result{app(v("$2"), term(api.XUnit)), v(outer), gvar, []kernel.Bind{{Name: outer, T: gvar}, {Name: "$2", T: thunk}}},
		result{xpair(v("$1"), v("$3")), xpair(xint(0), v("$0")), api.TT{Kind: api.GPair, Kids: []api.TT{gint, gvar}}, []kernel.Bind{{Name: "$0", T: gvar}, {Name: "$1", T: gint}, {Name: "$3", T: gvar}}},
		result{lam("$0", gint, v("$0")), lam("x", gint, v("x")), api.TT{Kind: api.GFn, Kids: []api.TT{gint, gint}}, nil},
	)
}

// TestP1505: the kernel takes the term, for patterns by chance: at the type of yes and no.
func TestP1505(t *testing.T) {
	nested, open := 0, 0
	for seed := range int64(12000) {
		m := newMaker(seed)
		var outs map[int]string
		if m.Intn(4) == 0 {
			outs = map[int]string{1: chosen(m, "$4", "x1", "out"), 2: chosen(m, "$5", "y1")}
		}
		e := place(outs)
		p := m.patOf(m.typeOf(4), 9)
		s := unify.New()
		x, binds, err := pattern.Check(p, e, s)
		if err != api.OK {
			t.Fatalf("%d: Check(%s): %v", seed, brief(tell(p)), err)
		}
		by := map[int]api.Type{}
		of := turned(t, m.closed(s, x, by))
		var own []kernel.Bind
		var ownNames []string
		for _, b := range binds {
			own = append(own, kernel.Bind{Name: b.Name, T: turned(t, m.closed(s, b.T, by))})
			ownNames = append(ownNames, b.Name)
		}
		r := m.result(ownNames)
		on := chosen(m, "on", "x0", "y2", "$6", "$7")
		vars, l := surroundings(outs)
		taken := slices.ContainsFunc(append(l, r.needs...), func(b kernel.Bind) bool { return b.Name == on })
		if taken || clash(l, r.needs) {
			continue
		}
		l = append(append(l, r.needs...), kernel.Bind{Name: on, T: of})
		term := pattern.Term(p, e, on, uses(own, r.yes), r.no)
		got, err := kernel.Check(term, vars, l)
		if err != api.OK || !target.SameType(got, r.t) {
			t.Fatalf("%d: %s on %s: %s, %v, want %s: %s", seed, brief(tell(p)), on, target.Text(got), err, target.Text(r.t), brief(target.Show(term)))
		}
		if len(heads(p)) > 1 {
			nested++
		}
		if len(by) > 0 {
			open++
		}
	}
	if nested < 1000 || open < 1000 {
		t.Errorf("%d with several constructors, %d with something open: the test does not try much", nested, open)
	}
}

// clash: has one name two types?
func clash(a, b []kernel.Bind) bool {
	for _, x := range a {
		if slices.ContainsFunc(b, func(y kernel.Bind) bool { return y.Name == x.Name }) {
			return true
		}
	}
	return false
}

// TestP1505Shape: the types that are asked for are asked for: with another type of a name, or of on, there is none.
func TestP1505Shape(t *testing.T) {
	vars, l := surroundings(nil)
	gint, gbool := api.TT{Kind: api.GInt}, api.TT{Kind: api.GBool}
	p := con("Cons", two(name("x"), name("y")))
	gvar := func(n int) api.TT { return api.TT{Kind: api.GVar, N: n} }
	has := func(on api.TT, x, y api.TT, want api.Errno) {
		t.Helper()
		term := pattern.Term(p, place(nil), "on", uses([]kernel.Bind{{Name: "x", T: x}, {Name: "y", T: y}}, xint(0)), xint(1))
		if _, err := kernel.Check(term, vars, append(slices.Clip(l), kernel.Bind{Name: "on", T: on})); err != want {
			t.Errorf("%v, want %v", err, want)
		}
	}
	has(gvar(1), gint, gvar(1), api.OK)
	has(gvar(1), gbool, gvar(1), api.ErrTarget)
	has(gvar(1), gint, gvar(2), api.ErrTarget)
	has(gvar(2), gint, gvar(1), api.ErrTarget)
	has(gint, gint, gvar(1), api.ErrTarget)
	// Of another type than yes no has none.
	term := pattern.Term(p, place(nil), "on", xint(0), v("on"))
	if _, err := kernel.Check(term, vars, append(slices.Clip(l), kernel.Bind{Name: "on", T: gvar(1)})); err != api.ErrTarget {
		t.Errorf("yes and no of two types: %v", err)
	}
}

// TestP1505Bound: where the datatype is known by its representation, and its constructors and out are terms, the term runs to what a value is made of.
func TestP1505Bound(t *testing.T) {
	d := of(1)
	rep, _ := trans.Rep(d.stamp, d.ctors)
	sum := api.TT{Kind: api.GSum, Kids: []api.TT{{Kind: api.GUnit}, {Kind: api.GPair, Kids: []api.TT{{Kind: api.GInt}, rep}}}}
	nilTerm := api.TM{Kind: api.XFold, Types: []api.TT{rep}, Kids: []api.TM{{Kind: api.XInj, Types: []api.TT{sum}, Kids: []api.TM{term(api.XUnit)}}}}
	cons := func(n int64, rest api.TM) api.TM {
		return api.TM{Kind: api.XFold, Types: []api.TT{rep}, Kids: []api.TM{{Kind: api.XInj, N: 1, Types: []api.TT{sum}, Kids: []api.TM{xpair(xint(n), rest)}}}}
	}
	out := lam("l", rep, term(api.XUnfold, v("l")))
	m := pattern.Term(con("Cons", two(name("x"), con("Cons", two(name("y"), name("z"))))), place(nil), "on", xpair(v("x"), xpair(v("y"), v("z"))), xpair(xint(0), xpair(xint(0), nilTerm)))
	m = let(names.Out("list"), out, let("on", cons(1, cons(2, nilTerm)), m))
	got, err := kernel.Closed(m)
	want := api.TT{Kind: api.GPair, Kids: []api.TT{{Kind: api.GInt}, {Kind: api.GPair, Kids: []api.TT{{Kind: api.GInt}, rep}}}}
	if err != api.OK || !target.SameType(got, want) {
		t.Errorf("%s, %v", target.Text(got), err)
	}
}

// TestP1505Plain: without a constructor no environment is needed.
func TestP1505Plain(t *testing.T) {
	gint := api.TT{Kind: api.GInt}
	of := api.TT{Kind: api.GPair, Kids: []api.TT{gint, {Kind: api.GPair, Kids: []api.TT{{Kind: api.GBool}, {Kind: api.GUnit}}}}}
	m := pattern.Term(side(number(3), truth(), nothing()), env.Env{}, "x", v("x"), v("x"))
	got, err := kernel.Closed(lam("x", of, m))
	if want := (api.TT{Kind: api.GFn, Kids: []api.TT{of, of}}); err != api.OK || !target.SameType(got, want) {
		t.Errorf("%s, %v", target.Text(got), err)
	}
}
