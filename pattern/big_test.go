package pattern_test

import (
	"fmt"
	"strconv"
	"testing"

	"wafer/api"
	"wafer/env"
	"wafer/pattern"
	"wafer/target"
	"wafer/unify"
)

// deepest: how deep parts may be nested in what is given.
const deepest = 1 << 16

// TestDeep: patterns and values that are nested as deep as they may be.
func TestDeep(t *testing.T) {
	p, pairs := name("x"), name("y")
	x, values := vint(7), vint(8)
	for range deepest - 1 {
		p, x = con("M.C", p), vcon("C", x)
		pairs, values = two(nothing(), pairs), vpair(vunit(), values)
	}
	wantFits(t, p, x, texts("x"), vint(7))
	wantFits(t, pairs, values, texts("y"), vint(8))
	wantNone(t, p, x.Kids[0])
	wantFits(t, p.Kids[0], x, texts("x"), vcon("C", vint(7)))
	wantNone(t, p, values)
	if names, parts, ok := pattern.Fits(name("x"), x); !ok || len(names) != 1 || len(parts) != 1 {
		t.Error("a name does not fit a deep value")
	}
	wantCode(t, p, place(nil), api.ErrDeep)
	wantCode(t, pairs, place(nil), api.ErrDeep)
	pattern.Term(p, place(nil), "on", xint(0), xint(1))
	// Yes and no may be as deep.
	yes, no := list(make([]string, deepest-4)...), xint(0)
	for range deepest - 4 {
		no = term(api.XFst, no)
	}
	m := pattern.Term(two(number(1), two(truth(), name("x"))), env.Env{}, "on", yes, no)
	if size := target.Nodes(m, 1<<30); size < 3*deepest-100 || size > 4*deepest {
		t.Errorf("%d nodes", size)
	}
}

// TestDepth: patterns at the greatest depth, and one above.
func TestDepth(t *testing.T) {
	e := place(nil)
	list := func(depth int) api.Pat {
		p := con("Nil")
		for range (depth - 1) / 2 {
			p = con("Cons", two(anything(), p))
		}
		return p
	}
	wantChecked(t, list(99), e, "#1")
	wantCode(t, list(101), e, api.ErrDeep)
	wantChecked(t, con("Mark", list(99)), e, "#2")
	wantCode(t, two(list(99), con("Mark", list(99))), e, api.ErrDeep)
	m := pattern.Term(con("Mark", list(99)), e, "on", xint(1), xint(0))
	x := vcon("Nil")
	for range 49 {
		x = vcon("Cons", vpair(vint(3), x))
	}
	for want, value := range map[int64]api.Value{1: vcon("Mark", x), 0: vcon("Mark", vcon("Cons", vpair(vint(3), x)))} {
		if got := mean(m, around(nil).with("on", meant(value, stamp(2)))); got != want {
			t.Errorf("%v, want %d", got, want)
		}
	}
}

// TestManyParts: a pattern with very many constructors and names, whose type is small.
func TestManyParts(t *testing.T) {
	const count = 1 << 14
	e, names := place(nil), 0
	var tree func(leaves int) api.Pat
	tree = func(leaves int) api.Pat {
		if leaves == 1 {
			names++
			return con("Leaf", name("x"+strconv.Itoa(names)))
		}
		return con("Node", two(tree(leaves/2), tree(leaves/2)))
	}
	p := tree(count)
	s := unify.New()
	x, l, err := pattern.Check(p, e, s)
	if err != api.OK || x.Kind != api.TStamp || len(l) != count || l[0].Name != "x1" || l[count-1].Name != "x"+strconv.Itoa(count) {
		t.Fatalf("%v, %d binds", err, len(l))
	}
	for _, b := range l {
		if r, _ := s.Resolve(b.T); r.Kind != api.TBool {
			t.Fatalf("%s: kind %d", b.Name, r.Kind)
		}
	}
	m := pattern.Term(p, e, "on", v("x9"), v("x9"))
	if size := target.Nodes(m, 1<<30); size > 60*count {
		t.Errorf("%d nodes of a term", size)
	}
	wantCode(t, two(p, p), e, api.ErrTwice)
	wantCode(t, broad(1<<16, func(int) api.Pat { return anything() }), e, api.ErrType)
}

// TestManyConstructors: a datatype with very many constructors, and an environment with very many entries.
func TestManyConstructors(t *testing.T) {
	const count = 20000
	var all []api.Ctor
	for i := range count {
		all = append(all, ctor(fmt.Sprint("C", i), integer()))
	}
	e := env.Env{Subs: []env.Sub{{Name: "M", S: api.Str{Types: []api.TyMember{{Name: "t", T: stamp(1), Ctors: all}}}, X: v("M")}}}
	p := two(con("M.C0", name("x")), two(con("M.C19999", number(3)), con("M.C7", anything())))
	wantChecked(t, p, e, "#1 * (#1 * #1); x: int")
	m := pattern.Term(p, e, "on", xint(1), list(make([]string, 1000)...))
	if size := target.Nodes(m, 1<<30); size > 12*count+5000 {
		t.Errorf("%d nodes: no stands at each place", size)
	}
	s := scope{"M": record{"out t": taker{}}, "": int64(0)}
	value := func(n int) any { return injection{n, int64(3)} }
	if got := mean(m, s.with("on", pairValue{value(0), pairValue{value(19999), value(7)}})); got != int64(1) {
		t.Errorf("%v", got)
	}
	if got := mean(m, s.with("on", pairValue{value(0), pairValue{value(19998), value(7)}})); got == int64(1) {
		t.Errorf("%v", got)
	}
}

// TestManyMetas: a store that has very many metas goes on.
func TestManyMetas(t *testing.T) {
	s := unify.New()
	for range 100000 {
		s.Meta()
	}
	e := place(nil)
	for range 200 {
		if got := checked(con("Cons", two(name("x"), con("Nil", name("y")))), e, s); got != api.ErrType.Error() {
			t.Fatal(got)
		}
		if got := checked(con("Cons", two(name("x"), name("y"))), e, s); got != "#1; x: int; y: #1" {
			t.Fatal(got)
		}
	}
}
