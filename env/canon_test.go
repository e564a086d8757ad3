package env_test

import (
	"fmt"
	"math"
	"slices"
	"testing"

	"wafer/api"
	"wafer/env"
)

func wantCanon(t *testing.T, a, want api.Abs) {
	t.Helper()
	same(t, "Canon of "+tell(a), env.Canon(a), want)
}

// TestP1305Example: the chapter's first one.
func TestP1305Example(t *testing.T) {
	a := abs(ints(7, 9), typ("t", stamp(9)), val("x", fn(stamp(9), integer())))
	wantCanon(t, a, abs(ints(0), typ("t", stamp(0)), val("x", fn(stamp(0), integer()))))
	wantText(t, a, "type t = ?1", "val x: ?1 -> int")
}

// TestP1305Canon: the order, the numbers, what is left out.
func TestP1305Canon(t *testing.T) {
	wantCanon(t, abs(nil), abs(nil))
	// Bound stamps that stand nowhere are left out, of each binder.
	wantCanon(t, abs(ints(1, 2, 3)), abs(nil))
	wantCanon(t, abs(ints(1), functor("F", ints(2), str(), abs(ints(3))), sig("S", ints(4, 4))), abs(nil, functor("F", nil, str(), abs(nil)), sig("S", nil)))
	wantCanon(t, abs(ints(1), val("x", pair(node(api.TMeta, 1), gen(1)))), abs(nil, val("x", pair(node(api.TMeta, 1), gen(1)))))
	// In the order in which they first stand, whatever the order of Stamps is.
	wantCanon(t, abs(ints(4, 5, 6), typ("t", fn(stamp(6), pair(stamp(4), stamp(6)))), typ("u", stamp(5))), abs(ints(0, 1, 2), typ("t", fn(stamp(0), pair(stamp(1), stamp(0)))), typ("u", stamp(2))))
	wantCanon(t, abs(ints(0, 1), typ("t", stamp(1)), typ("u", stamp(0))), abs(ints(0, 1), typ("t", stamp(0)), typ("u", stamp(1))))
	wantCanon(t, abs(ints(2, 1, 0), typ("t", stamp(1)), val("x", stamp(2))), abs(ints(0, 1), typ("t", stamp(0)), val("x", stamp(1))))
	// First places of what is in order: by names, kind by kind; constructors and their types as they stand.
	wantCanon(t, abs(ints(4, 5, 6, 7), typ("u", stamp(4)), val("a", stamp(7)), typ("t", stamp(5), ctor("B", stamp(6)), ctor("A", stamp(4)))),
		abs(ints(0, 1, 2, 3), typ("t", stamp(0), ctor("B", stamp(1)), ctor("A", stamp(2))), typ("u", stamp(2)), val("a", stamp(3))))
	wantCanon(t, abs(ints(1, 2), val("y", stamp(1)), val("x", stamp(2))), abs(ints(0, 1), val("x", stamp(0)), val("y", stamp(1))))
	// Those of one name as they stood.
	wantCanon(t, abs(ints(1, 2), val("x", stamp(2)), val("x", stamp(1))), abs(ints(0, 1), val("x", stamp(0)), val("x", stamp(1))))
	// Types, Vals, Subs, Funs (Arg, then Res), Sigs; a Sub's own likewise.
	wantCanon(t,
		abs(ints(10, 11, 12, 13, 14, 15, 16, 17, 18),
			sig("A", nil, typ("t", stamp(18))),
			functor("A", nil, str(val("x", stamp(16))), abs(nil, typ("t", stamp(17)))),
			sub("B", val("x", stamp(15))),
			sub("A", sub("A", typ("a", stamp(14))), val("x", stamp(13)), typ("t", stamp(12))),
			val("x", stamp(11)), typ("t", stamp(10))),
		abs(ints(0, 1, 2, 3, 4, 5, 6, 7, 8),
			typ("t", stamp(0)), val("x", stamp(1)),
			sub("A", typ("t", stamp(2)), val("x", stamp(3)), sub("A", typ("a", stamp(4)))),
			sub("B", val("x", stamp(5))),
			functor("A", nil, str(val("x", stamp(6))), abs(nil, typ("t", stamp(7)))),
			sig("A", nil, typ("t", stamp(8)))))
}

// TestP1305Free: numbers that are free anywhere are given to nothing that binds, and stay.
func TestP1305Free(t *testing.T) {
	wantCanon(t, abs(ints(7, 8), typ("t", fn(stamp(7), stamp(0)))), abs(ints(1), typ("t", fn(stamp(1), stamp(0)))))
	wantCanon(t, abs(ints(5, 6, 7), typ("t", pair(stamp(7), stamp(6))), val("x", fn(stamp(3), fn(stamp(1), fn(stamp(0), stamp(5)))))), abs(ints(2, 4, 5), typ("t", pair(stamp(2), stamp(4))), val("x", fn(stamp(3), fn(stamp(1), fn(stamp(0), stamp(5)))))))
	// Also those that are free where the binder does not reach, and that stand behind it.
	wantCanon(t, abs(nil, sig("S", ints(9), typ("t", stamp(9))), sig("T", nil, typ("t", stamp(0)), typ("u", stamp(9)))), abs(nil, sig("S", ints(1), typ("t", stamp(1))), sig("T", nil, typ("t", stamp(0)), typ("u", stamp(9)))))
	// A number that is bound in one place and free in another one.
	wantCanon(t, abs(nil, val("x", stamp(0)), sig("S", ints(0), typ("t", stamp(0)))), abs(nil, val("x", stamp(0)), sig("S", ints(1), typ("t", stamp(1)))))
	wantCanon(t, abs(ints(3), val("x", pair(stamp(-1), stamp(math.MaxInt))), val("y", stamp(3))), abs(ints(0), val("x", pair(stamp(-1), stamp(math.MaxInt))), val("y", stamp(0))))
	wantCanon(t, abs(ints(math.MinInt, math.MaxInt), val("x", pair(stamp(math.MaxInt), stamp(math.MinInt))), val("y", stamp(1))), abs(ints(0, 2), val("x", pair(stamp(0), stamp(2))), val("y", stamp(1))))
}

// TestP1305Binders: binders within binders, functors in structures, structures in functors: no two that bind have one number.
func TestP1305Binders(t *testing.T) {
	wantCanon(t,
		abs(ints(1),
			functor("F", ints(1), str(typ("t", stamp(1)), sub("M", typ("u", pair(stamp(1), stamp(2))))), abs(ints(1), typ("t", stamp(1)), sub("N", typ("v", stamp(1))))),
			sub("P", functor("G", ints(2, 1), str(typ("t", stamp(1))), abs(nil, typ("t", pair(stamp(2), stamp(1)))))),
			sig("S", ints(1), typ("t", stamp(1)), sig("T", ints(1), typ("t", stamp(1)))),
			val("x", stamp(1))),
		abs(ints(0),
			val("x", stamp(0)),
			sub("P", functor("G", ints(1, 3), str(typ("t", stamp(1))), abs(nil, typ("t", pair(stamp(3), stamp(1)))))),
			functor("F", ints(4), str(typ("t", stamp(4)), sub("M", typ("u", pair(stamp(4), stamp(2))))), abs(ints(5), typ("t", stamp(5)), sub("N", typ("v", stamp(5))))),
			sig("S", ints(6), typ("t", stamp(6)), sig("T", ints(7), typ("t", stamp(7))))))
	// An outer one that first stands within an inner binder, behind the inner one's: each list in the order of numbers.
	wantCanon(t, abs(ints(8, 9), sig("S", ints(5, 6), typ("t", fn(stamp(6), fn(stamp(9), fn(stamp(5), stamp(8)))))), sig("T", nil, val("x", stamp(9)))),
		abs(ints(1, 3), sig("S", ints(0, 2), typ("t", fn(stamp(0), fn(stamp(1), fn(stamp(2), stamp(3)))))), sig("T", nil, val("x", stamp(1)))))
	// Hidden by an inner one, the outer one stands nowhere.
	wantCanon(t, abs(ints(5), sig("S", ints(5), typ("t", stamp(5)))), abs(nil, sig("S", ints(0), typ("t", stamp(0)))))
	wantCanon(t, abs(nil, functor("F", ints(5), str(), abs(ints(5), typ("t", stamp(5))))), abs(nil, functor("F", nil, str(), abs(ints(0), typ("t", stamp(0))))))
	wantCanon(t, abs(nil, functor("F", ints(5), str(typ("t", stamp(5))), abs(ints(5), typ("t", stamp(5))))), abs(nil, functor("F", ints(0), str(typ("t", stamp(0))), abs(ints(1), typ("t", stamp(1))))))
	// A stamp of Res is not bound in Arg.
	wantCanon(t, abs(ints(5), functor("F", nil, str(typ("t", stamp(5))), abs(ints(5), typ("t", stamp(5))))), abs(ints(0), functor("F", nil, str(typ("t", stamp(0))), abs(ints(1), typ("t", stamp(1))))))
	// A number that one binder has twice is one stamp.
	wantCanon(t, abs(ints(5, 5, 4), typ("t", pair(stamp(4), stamp(5)))), abs(ints(0, 1), typ("t", pair(stamp(0), stamp(1)))))
	// Types that are not right are gone through as they stand.
	wantCanon(t, abs(ints(5, 6), val("x", node(api.TStamp, 6, stamp(5), node(99, 5, stamp(6))))), abs(ints(0, 1), val("x", node(api.TStamp, 0, stamp(1), node(99, 5, stamp(0))))))
}

// TestP1305Chance: by chance, right and wild, against the chapter's words.
func TestP1305Chance(t *testing.T) {
	for seed := range int64(6000) {
		m := newMaker(seed)
		a := m.abs(1 + m.Intn(4))
		wantCanon(t, a, plainCanon(a))
	}
}

func wantSame(t *testing.T, a, b api.Abs, want bool) {
	t.Helper()
	if env.SameAbs(a, b) != want || env.SameAbs(b, a) != want {
		t.Fatalf("SameAbs(%s, %s): %v and %v, want %v", brief(tell(a)), brief(tell(b)), env.SameAbs(a, b), env.SameAbs(b, a), want)
	}
}

// unlike: Abs of which no two are the same, one for each thing by which they may be told apart.
func unlike() []api.Abs {
	list := func(s ...api.Abs) []api.Abs { return s }
	return slices.Concat(
		list(abs(nil), abs(nil, typ("t", integer())), abs(nil, typ("u", integer())), abs(nil, typ("t", boolean())), abs(nil, typ("t", stamp(0))), abs(nil, typ("t", stamp(1))), abs(ints(1), typ("t", stamp(1)))),
		list(abs(nil, typ("t", integer()), typ("t", integer())), abs(nil, typ("t", integer()), typ("t", boolean())), abs(nil, typ("t", boolean()), typ("t", integer()))),
		list(abs(nil, typ("t", stamp(0), ctor("A"))), abs(nil, typ("t", stamp(0), ctor("B"))), abs(nil, typ("t", stamp(0), ctor("A", integer()))), abs(nil, typ("t", stamp(0), ctor("A", unit()))), abs(nil, typ("t", stamp(0), ctor("A"), ctor("B"))), abs(nil, typ("t", stamp(0), ctor("B"), ctor("A"))), abs(nil, typ("t", stamp(0), ctor("A", integer(), unit())))),
		list(abs(nil, val("t", integer())), abs(nil, val("x", integer())), abs(nil, poly("x", 1, integer())), abs(nil, poly("x", 1, gen(0))), abs(nil, poly("x", 2, gen(0))), abs(nil, val("x", node(api.TInt, 1))), abs(nil, val("x", node(api.TInt, 0, integer())))),
		list(abs(nil, sub("M")), abs(nil, sub("N")), abs(nil, sub("M"), sub("N")), abs(nil, sub("M", sub("N"))), abs(nil, sub("M", typ("t", integer())))),
		list(abs(nil, functor("M", nil, str(), abs(nil))), abs(nil, functor("N", nil, str(), abs(nil))), abs(nil, functor("M", nil, str(typ("t", integer())), abs(nil))), abs(nil, functor("M", nil, str(), abs(nil, typ("t", integer()))))),
		list(abs(nil, functor("M", ints(3), str(typ("t", stamp(3))), abs(nil, typ("t", stamp(3))))), abs(nil, functor("M", ints(3), str(typ("t", stamp(3))), abs(ints(3), typ("t", stamp(3))))), abs(ints(3), functor("M", nil, str(typ("t", stamp(3))), abs(nil, typ("t", stamp(3))))), abs(ints(3), functor("M", nil, str(typ("t", stamp(3))), abs(ints(3), typ("t", stamp(3))))), abs(nil, functor("M", nil, str(typ("t", stamp(3))), abs(ints(3), typ("t", stamp(3)))))),
		list(abs(nil, sig("M", nil)), abs(nil, sig("N", nil)), abs(nil, sig("M", ints(2), typ("t", stamp(2)))), abs(ints(2), sig("M", nil, typ("t", stamp(2)))), abs(nil, sig("M", nil, typ("t", stamp(2))))),
		list(abs(ints(1, 2), typ("t", stamp(1)), typ("u", stamp(2))), abs(ints(1), typ("t", stamp(1)), typ("u", stamp(1))), abs(ints(1), typ("t", stamp(1)), typ("u", stamp(2))), abs(ints(2), typ("t", stamp(1)), typ("u", stamp(2))), abs(nil, typ("t", stamp(1)), typ("u", stamp(2)))),
		list(abs(nil, val("x", node(api.TMeta, 1))), abs(nil, val("x", stamp(-1))), abs(nil, val("x", node(api.TStamp, 1, integer())))),
	)
}

// TestP1305SameAbs: just those that have one Canon are the same.
func TestP1305SameAbs(t *testing.T) {
	l := unlike()
	for i, a := range l {
		for k, b := range l {
			wantSame(t, a, b, i == k)
		}
	}
	// The order of lists, of Stamps, what is bound and stands nowhere, and bound numbers change nothing.
	a := abs(ints(1, 2), typ("t", stamp(1)), typ("u", fn(stamp(2), stamp(9))), sub("M", val("x", stamp(1))), sub("N"), sig("S", ints(3), typ("t", stamp(3))))
	wantSame(t, a, abs(ints(2, 1, 7), sub("N"), sub("M", val("x", stamp(1))), typ("u", fn(stamp(2), stamp(9))), typ("t", stamp(1)), sig("S", ints(3, 4), typ("t", stamp(3)))), true)
	wantSame(t, a, abs(ints(3, 3, 1), typ("t", stamp(3)), typ("u", fn(stamp(1), stamp(9))), sub("M", val("x", stamp(3))), sub("N"), sig("S", ints(3), typ("t", stamp(3)))), true)
	wantSame(t, a, abs(ints(1, 2), typ("t", stamp(1)), typ("u", fn(stamp(2), stamp(8))), sub("M", val("x", stamp(1))), sub("N"), sig("S", ints(3), typ("t", stamp(3)))), false)
	wantSame(t, a, abs(ints(1, 2), typ("t", stamp(1)), typ("u", fn(stamp(2), stamp(9))), sub("M", val("x", stamp(2))), sub("N"), sig("S", ints(3), typ("t", stamp(3)))), false)
	wantSame(t, a, abs(ints(1, 2), typ("t", stamp(1)), typ("u", fn(stamp(2), stamp(9))), sub("M", val("x", stamp(1))), sub("N"), sig("S", nil, typ("t", stamp(1)))), false)
	wantSame(t, abs(nil, sub("M"), val("x", unit())), api.Abs{Stamps: []int{}, S: api.Str{Types: []api.TyMember{}, Vals: []api.ValMember{{Name: "x", S: api.Scheme{T: api.Type{Kind: api.TUnit, Kids: []api.Type{}}}}}, Subs: []api.SubMember{{Name: "M"}}}}, true)
}

// TestP1305SameChance: Abs and what they become by a small change, against two gone through side by side.
func TestP1305SameChance(t *testing.T) {
	count := map[bool]int{}
	for seed := range int64(6000) {
		m := newMaker(seed)
		a := m.abs(1 + m.Intn(3))
		b := cloned(a)
		if m.Intn(3) > 0 {
			m.mix(&b)
		}
		if m.Intn(3) > 0 {
			m.spoil(&b)
		}
		if m.Intn(10) == 0 {
			b = m.abs(1 + m.Intn(2))
		}
		want := plainSame(a, b)
		count[want]++
		wantSame(t, a, b, want)
		if one := env.Text(a) == env.Text(b); want && !one {
			t.Fatalf("%d: texts of the same ones are unlike", seed)
		}
	}
	if count[true] < 1000 || count[false] < 1000 {
		t.Errorf("only %v were tried", count)
	}
}

// mix: changes an Abs so that it stays the same: other numbers for what is bound, other orders.
func (m maker) mix(a *api.Abs) {
	next := 5000
	var apart []func()
	visitor{binder: func(stamps *[]int, _ around) {
		apart = append(apart, func() {
			m.Shuffle(len(*stamps), func(i, k int) { (*stamps)[i], (*stamps)[k] = (*stamps)[k], (*stamps)[i] })
			for range m.Intn(2) {
				*stamps = append(*stamps, next)
				next++
			}
		})
	}}.abs(a, nil)
	for _, change := range apart {
		change()
	}
	renumber(a, func() int { next++; return next })
	m.shuffle(&a.S)
}

// shuffle: another order of the members that have unlike names.
func (m maker) shuffle(s *api.Str) {
	if l := byName(s.Vals, func(m api.ValMember) string { return m.Name }); len(once(slices.Clone(l), func(m api.ValMember) string { return m.Name })) == len(l) {
		m.Shuffle(len(s.Vals), func(i, k int) { s.Vals[i], s.Vals[k] = s.Vals[k], s.Vals[i] })
	}
	if l := byName(s.Subs, func(m api.SubMember) string { return m.Name }); len(once(slices.Clone(l), func(m api.SubMember) string { return m.Name })) == len(l) {
		m.Shuffle(len(s.Subs), func(i, k int) { s.Subs[i], s.Subs[k] = s.Subs[k], s.Subs[i] })
	}
	for i := range s.Subs {
		m.shuffle(&s.Subs[i].S)
	}
}

// renumber: other numbers for all that is bound, each binder's own.
func renumber(a *api.Abs, next func() int) {
	type key struct {
		by *[]int
		n  int
	}
	given := map[key]int{}
	type place struct {
		t *api.Type
		n int
	}
	var places []place
	var binders []*[]int
	number := func(k key) int {
		if _, ok := given[k]; !ok {
			given[k] = next()
		}
		return given[k]
	}
	visitor{
		binder: func(stamps *[]int, _ around) { binders = append(binders, stamps) },
		at: func(t *api.Type, in around) {
			if b := in.of(t.N); b != nil {
				places = append(places, place{t, number(key{b, t.N})})
			}
		},
	}.abs(a, nil)
	for _, p := range places {
		p.t.N = p.n
	}
	for _, b := range binders {
		for i, n := range *b {
			(*b)[i] = number(key{b, n})
		}
	}
}

// spoil: a small change somewhere: another number of a stamp, or one that is bound no longer.
func (m maker) spoil(a *api.Abs) {
	var places []*api.Type
	var binders []*[]int
	visitor{
		at:     func(t *api.Type, _ around) { places = append(places, t) },
		binder: func(stamps *[]int, _ around) { binders = append(binders, stamps) },
	}.abs(a, nil)
	if len(places) > 0 && m.Intn(2) == 0 {
		t := chosen(m.Rand, places)
		t.N = chosen(m.Rand, places).N
		return
	}
	b := chosen(m.Rand, binders)
	if len(*b) > 0 {
		*b = slices.Delete(*b, 0, 1)
	} else {
		*b = ints(m.stampNumber())
	}
}

// TestP1307Laws: on structures made by chance, right and wild.
func TestP1307Laws(t *testing.T) {
	for seed := range int64(4000) {
		m := newMaker(seed)
		a := m.abs(1 + m.Intn(4))
		c := env.Canon(a)
		what := fmt.Sprint(seed, ": ", tell(a))
		same(t, what+": Canon of Canon", env.Canon(c), c)
		same(t, what+": Free of Canon", env.Free(c), env.Free(a))
		wantSame(t, a, a, true)
		wantSame(t, a, c, true)
		if env.Text(c) != env.Text(a) {
			t.Fatalf("%s: Text of Canon: %s", brief(what), env.Text(c))
		}
		// Renaming bound stamps changes no Text.
		b := cloned(a)
		next := 100
		renumber(&b, func() int { next--; return -next })
		same(t, what+": Text of "+tell(b), env.Text(b), env.Text(a))
		same(t, what+": Canon of "+tell(b), env.Canon(b), c)
		wantSame(t, a, b, true)
	}
}

// TestP1307Equality: SameAbs goes on through a third one.
func TestP1307Equality(t *testing.T) {
	var l []api.Abs
	for seed := range int64(30) {
		m := newMaker(seed)
		a := m.abs(2)
		b, c := cloned(a), cloned(a)
		m.mix(&b)
		m.mix(&c)
		m.spoil(&c)
		l = append(l, a, b, c, abs(m.stamps(), typ("t", m.typeOf(2, 0))))
	}
	for _, a := range l {
		for _, b := range l {
			if env.SameAbs(a, b) != env.SameAbs(b, a) {
				t.Fatalf("SameAbs(%s, %s) is not the other way round", tell(a), tell(b))
			}
			if !env.SameAbs(a, b) {
				continue
			}
			for _, c := range l {
				if env.SameAbs(b, c) != env.SameAbs(a, c) {
					t.Fatalf("SameAbs does not go on from %s through %s to %s", tell(a), tell(b), tell(c))
				}
			}
		}
	}
}
