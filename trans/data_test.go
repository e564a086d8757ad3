package trans_test

import (
	"fmt"
	"math"
	"testing"

	"wafer/api"
	"wafer/trans"
)

func wantSum(t *testing.T, l []api.Ctor, want api.TT, wantCode api.Errno) {
	t.Helper()
	got, code := trans.Sum(l)
	answers(t, "Sum "+tell(l), got, code, want, wantCode)
}

func wantRep(t *testing.T, n int, l []api.Ctor, want api.TT, wantCode api.Errno) {
	t.Helper()
	got, code := trans.Rep(n, l)
	answers(t, fmt.Sprint("Rep ", n, " ", tell(l)), got, code, want, wantCode)
}

func wantCon(t *testing.T, n int, c api.Ctor, want api.TT, wantCode api.Errno) {
	t.Helper()
	got, code := trans.Con(n, c)
	answers(t, fmt.Sprint("Con ", n, " ", tell(c)), got, code, want, wantCode)
}

// list: the chapter's datatype.
func list() []api.Ctor { return ctors(ctor("Nil"), ctor("Cons", pair(integer(), stamp(5)))) }

// TestF142Example: the chapter's example.
func TestF142Example(t *testing.T) {
	s := sum(gunit(), gpair(gint(), v(5)))
	wantSum(t, list(), s, api.OK)
	wantRep(t, 5, list(), mu(5, s), api.OK)
	wantCon(t, 5, list()[1], gfn(gpair(gint(), v(5)), v(5)), api.OK)
	wantCon(t, 5, list()[0], v(5), api.OK)
}

// TestF142Sums: a kid for each constructor, in their order, whatever they are called.
func TestF142Sums(t *testing.T) {
	both := func(l []api.Ctor, kids ...api.TT) {
		t.Helper()
		wantSum(t, l, sum(kids...), api.OK)
		wantRep(t, 3, l, mu(3, sum(kids...)), api.OK)
	}
	both(nil)
	both(ctors())
	both(ctors(ctor("A")), gunit())
	both(ctors(ctor("A", unit())), gunit())
	both(ctors(ctor("B"), ctor("A", integer()), ctor("C")), gunit(), gint(), gunit())
	both(ctors(ctor("A", boolean()), ctor("B", integer())), gbool(), gint())
	both(ctors(ctor("B", integer()), ctor("A", boolean())), gint(), gbool())
	both(ctors(ctor("A", stamp(3)), ctor("B", stamp(4)), ctor("C", fn(stamp(3), stamp(top)))), v(3), v(4), gfn(v(3), v(top)))
	// Names are not asked for.
	both(ctors(ctor(""), ctor("a"), ctor("A", integer()), ctor("A", boolean()), ctor("\xff.")), gunit(), gunit(), gint(), gbool(), gunit())
}

// TestF142Constructors: the type of one with an argument, and of one without.
func TestF142Constructors(t *testing.T) {
	for _, n := range ints(0, 1, 5, 1<<20, top-1, top) {
		wantCon(t, n, ctor("A"), v(n), api.OK)
		wantCon(t, n, ctor(""), v(n), api.OK)
		wantCon(t, n, ctor("A", unit()), gfn(gunit(), v(n)), api.OK)
		wantCon(t, n, ctor("A", stamp(n)), gfn(v(n), v(n)), api.OK)
		wantCon(t, n, ctor("A", fn(stamp(2), boolean())), gfn(gfn(v(2), gbool()), v(n)), api.OK)
	}
}

// TestF142Stamps: which stamps Rep and Con take; Sum asks nothing of one.
func TestF142Stamps(t *testing.T) {
	for _, n := range ints(0, 1, top-1, top) {
		wantRep(t, n, list(), mu(n, sum(gunit(), gpair(gint(), v(5)))), api.OK)
		wantRep(t, n, nil, mu(n, sum()), api.OK)
		wantRep(t, n, ctors(ctor("A", stamp(n))), mu(n, sum(v(n))), api.OK)
	}
	for _, n := range noStamps() {
		wantRep(t, n, list(), api.TT{}, api.ErrArg)
		wantRep(t, n, nil, api.TT{}, api.ErrArg)
		wantCon(t, n, ctor("A"), api.TT{}, api.ErrArg)
		wantCon(t, n, ctor("A", integer()), api.TT{}, api.ErrArg)
		wantRep(t, n, ctors(ctor("A", meta(0))), api.TT{}, api.ErrArg)
		wantCon(t, n, ctor("A", integer(), integer()), api.TT{}, api.ErrArg)
	}
}

// spoilt: a constructor that is not right spoils what it stands in, wherever it stands.
func spoilt(t *testing.T, c api.Ctor) {
	t.Helper()
	wantCon(t, 5, c, api.TT{}, api.ErrArg)
	for _, l := range [][]api.Ctor{{c}, {c, ctor("A")}, {ctor("A"), c}, {ctor("A"), ctor("B", integer()), c, ctor("C")}} {
		wantSum(t, l, api.TT{}, api.ErrArg)
		wantRep(t, 5, l, api.TT{}, api.ErrArg)
	}
}

// TestF142Wrong: more than one of Args, and errors of Type.
func TestF142Wrong(t *testing.T) {
	spoilt(t, ctor("A", integer(), integer()))
	spoilt(t, ctor("A", unit(), unit(), unit()))
	spoilt(t, ctor("A", meta(1), integer()))
	for _, x := range append(wrongs(), meta(0), gen(0), stamp(top+1), stamp(-1), stamp(math.MaxInt)) {
		for _, y := range around(x) {
			spoilt(t, ctor("A", y))
		}
	}
}

// TestF142Chance: constructors by chance, right and wild, against the chapter's words.
func TestF142Chance(t *testing.T) {
	codes := map[api.Errno]int{}
	for seed := range int64(10000) {
		m := newMaker(seed)
		l, n := m.ctors(), m.stampNumber()
		want, code := plainSum(l)
		wantSum(t, l, want, code)
		codes[code]++
		want, code = plainRep(n, l)
		wantRep(t, n, l, want, code)
		codes[code]++
		c := m.ctor()
		want, code = plainCon(n, c)
		wantCon(t, n, c, want, code)
		codes[code]++
	}
	if codes[api.OK] < 10000 || codes[api.ErrArg] < 1000 {
		t.Errorf("%v", codes)
	}
}
