package env_test

import (
	"fmt"
	"math"
	"slices"
	"testing"

	"wafer/api"
	"wafer/env"
)

// TestP1304Sorted: each list, all through, in the order of names; those of one name stay as they stood.
func TestP1304Sorted(t *testing.T) {
	n := 0
	mixed := func(more ...any) []any {
		n += 10
		return append([]any{
			typ("u", stamp(n)), typ("t", stamp(n+1)), typ("u", stamp(n+2)), typ("", stamp(n+3)), typ("t", stamp(n+4)), typ("t1", stamp(n+5)),
			val("y", stamp(n)), val("x", stamp(n+1)), val("Y", stamp(n+2)), val("y", stamp(n+3)), val("x", stamp(n+4)),
		}, more...)
	}
	sorted := func(n int, more ...any) []any {
		return append([]any{
			typ("", stamp(n+3)), typ("t", stamp(n+1)), typ("t", stamp(n+4)), typ("t1", stamp(n+5)), typ("u", stamp(n)), typ("u", stamp(n+2)),
			val("Y", stamp(n+2)), val("x", stamp(n+1)), val("x", stamp(n+4)), val("y", stamp(n)), val("y", stamp(n+3)),
		}, more...)
	}
	got := env.Sorted(str(mixed(
		sub("N", mixed()...), sub("M", mixed(sub("B"), sub("A", mixed()...))...), sub("N"),
		functor("G", ints(9, 3), str(mixed()...), abs(ints(5, 4), mixed(sub("b"), sub("a"))...)), functor("F", nil, str(), abs(nil)), functor("G", ints(1), str(), abs(nil)),
		sig("T", ints(8, 2), mixed(sig("Z", nil), sig("Y", ints(3, 3)))...), sig("S", nil), sig("T", ints(7)),
	)...))
	want := str(sorted(70,
		sub("M", sorted(30, sub("A", sorted(20)...), sub("B"))...), sub("N", sorted(10)...), sub("N"),
		functor("F", nil, str(), abs(nil)), functor("G", ints(9, 3), str(sorted(40)...), abs(ints(5, 4), sorted(50, sub("a"), sub("b"))...)), functor("G", ints(1), str(), abs(nil)),
		sig("S", nil), sig("T", ints(8, 2), sorted(60, sig("Y", ints(3, 3)), sig("Z", nil))...), sig("T", ints(7)),
	)...)
	same(t, "Sorted", got, want)
	// By bytes, not by letters; constructors, bound stamps and types stay as they stand.
	same(t, "by bytes", env.Sorted(str(val("b", unit()), val("a_", unit()), val("aB", unit()), val("a", unit()), val("B", unit()), val("a0", unit()), val("\xff", unit()), val("é", unit()))),
		str(val("B", unit()), val("a", unit()), val("a0", unit()), val("aB", unit()), val("a_", unit()), val("b", unit()), val("é", unit()), val("\xff", unit())))
	ctors := str(typ("t", stamp(2), ctor("C"), ctor("A", stamp(3)), ctor("B"), ctor("A")), val("x", node(9, 3, stamp(4), stamp(1))))
	same(t, "what stays", env.Sorted(ctors), ctors)
	same(t, "nothing", env.Sorted(str()), str())
	for seed := range int64(3000) {
		s := newMaker(seed).str(4)
		same(t, fmt.Sprint(seed), env.Sorted(s), plainSorted(s))
		same(t, fmt.Sprint(seed, " again"), env.Sorted(env.Sorted(s)), plainSorted(s))
	}
}

// TestP1304Many: long lists, of which many have one name: by these and by what they have they are in order.
func TestP1304Many(t *testing.T) {
	var s api.Str
	for i := range 3000 {
		name := fmt.Sprint("x", i*7919%100)
		s.Types = append(s.Types, typ(name, stamp(i)))
		s.Vals = append(s.Vals, val(name, stamp(i)))
		s.Subs = append(s.Subs, sub(name, val("y", stamp(i))))
		s.Funs = append(s.Funs, functor(name, ints(i), str(), abs(nil)))
		s.Sigs = append(s.Sigs, sig(name, ints(i)))
	}
	s = env.Sorted(s)
	last := map[string]string{}
	behind := func(list, name string, n int) {
		t.Helper()
		now := fmt.Sprintf("%s %06d", name, n)
		if now <= last[list] {
			t.Fatalf("%s: %s stands behind %s", list, now, last[list])
		}
		last[list] = now
	}
	for i := range 3000 {
		behind("Types", s.Types[i].Name, s.Types[i].T.N)
		behind("Vals", s.Vals[i].Name, s.Vals[i].S.T.N)
		behind("Subs", s.Subs[i].Name, s.Subs[i].S.Vals[0].S.T.N)
		behind("Funs", s.Funs[i].Name, s.Funs[i].F.Stamps[0])
		behind("Sigs", s.Sigs[i].Name, s.Sigs[i].A.Stamps[0])
	}
}

func wantFree(t *testing.T, a api.Abs, want ...int) {
	t.Helper()
	same(t, "Free of "+tell(a), env.Free(a), want)
}

// TestP1304Free: the stamps that nothing binds, of each kind of member, rising, each once.
func TestP1304Free(t *testing.T) {
	wantFree(t, abs(nil))
	wantFree(t, abs(ints(1, 2)))
	wantFree(t, abs(nil, typ("t", fn(stamp(7), pair(stamp(3), stamp(7))))), 3, 7)
	wantFree(t, abs(ints(7), typ("t", fn(stamp(7), pair(stamp(3), stamp(7))))), 3)
	wantFree(t, abs(ints(3, 7), typ("t", fn(stamp(7), stamp(3)))))
	wantFree(t, abs(ints(1), typ("t", stamp(2), ctor("A", stamp(3)), ctor("B"), ctor("C", stamp(1), stamp(4)))), 2, 3, 4)
	wantFree(t, abs(ints(1), poly("x", 1, fn(gen(0), fn(stamp(1), stamp(9))))), 9)
	wantFree(t, abs(ints(1), sub("M", typ("t", stamp(1)), typ("u", stamp(2)), sub("N", val("x", stamp(3))))), 2, 3)
	// A functor's Stamps bind in its Arg and its Res, the Stamps of Res in Res alone.
	wantFree(t, abs(ints(1), functor("F", ints(2), str(typ("t", pair(stamp(1), pair(stamp(2), stamp(3))))), abs(ints(3), typ("t", pair(stamp(1), pair(stamp(2), pair(stamp(3), stamp(4)))))))), 3, 4)
	wantFree(t, abs(nil, functor("F", nil, str(typ("t", stamp(2))), abs(ints(2), typ("t", stamp(2))))), 2)
	wantFree(t, abs(nil, functor("F", ints(2), str(), abs(nil, typ("t", stamp(2))))))
	// What a functor or a signature binds is free behind it and ahead of it.
	wantFree(t, abs(nil, functor("F", ints(2), str(typ("t", stamp(2))), abs(ints(3), typ("t", stamp(3)))), functor("G", nil, str(typ("t", stamp(3))), abs(nil, typ("t", stamp(2))))), 2, 3)
	wantFree(t, abs(nil, sig("S", ints(4), typ("t", stamp(4)), typ("u", stamp(5))), sig("T", ints(5), typ("t", stamp(4)), typ("u", stamp(5)))), 4, 5)
	wantFree(t, abs(nil, typ("t", stamp(4)), sig("S", ints(4), typ("t", stamp(4)))), 4)
	wantFree(t, abs(ints(4), sig("S", ints(4), typ("t", stamp(4))), val("x", stamp(4))))
	// A binder's own list is no place at which a stamp stands.
	wantFree(t, abs(nil, functor("F", ints(2), str(), abs(ints(3))), sig("S", ints(4))))
	// A number that is bound twice is bound once its first binder ends.
	wantFree(t, abs(ints(5, 5), typ("t", stamp(5)), sig("S", ints(5, 5), typ("t", stamp(5))), sub("M", typ("t", stamp(5)))))
	// Metas and TGen are no stamps; data that is not right is gone through all the same.
	wantFree(t, abs(ints(-1), val("x", pair(node(api.TMeta, 3), gen(4))), val("y", node(api.TStamp, 8, stamp(9), node(api.TInt, 10, stamp(11)))), val("z", node(99, 12, stamp(-1), stamp(-2)))), -2, 8, 9, 11)
	wantFree(t, abs(nil, val("x", pair(stamp(math.MaxInt), stamp(math.MinInt)))), math.MinInt, math.MaxInt)
	for seed := range int64(4000) {
		a := newMaker(seed).abs(4)
		wantFree(t, a, plainFree(a)...)
	}
}

// wantRenamed: just this comes, where no binder is given another number.
func wantRenamed(t *testing.T, a api.Abs, from, to []int, want api.Abs) {
	t.Helper()
	same(t, fmt.Sprint("Rename ", tell(a), from, to), env.Rename(a, from, to), want)
}

// TestP1304Rename: free stamps are given others, at once, where nothing would be caught.
func TestP1304Rename(t *testing.T) {
	a := abs(ints(1), typ("t", fn(stamp(1), stamp(2))), val("x", pair(stamp(3), stamp(2))))
	wantRenamed(t, a, nil, nil, a)
	wantRenamed(t, a, ints(2), ints(5), abs(ints(1), typ("t", fn(stamp(1), stamp(5))), val("x", pair(stamp(3), stamp(5)))))
	// At once: what comes of one is not renamed again.
	wantRenamed(t, a, ints(2, 3), ints(3, 2), abs(ints(1), typ("t", fn(stamp(1), stamp(3))), val("x", pair(stamp(2), stamp(3)))))
	wantRenamed(t, a, ints(2, 3), ints(3, 4), abs(ints(1), typ("t", fn(stamp(1), stamp(3))), val("x", pair(stamp(4), stamp(3)))))
	wantRenamed(t, a, ints(3, 2), ints(2, 2), abs(ints(1), typ("t", fn(stamp(1), stamp(2))), val("x", pair(stamp(2), stamp(2)))))
	// The first that fits counts, also if it changes nothing.
	wantRenamed(t, a, ints(2, 2, 2), ints(6, 7, 8), abs(ints(1), typ("t", fn(stamp(1), stamp(6))), val("x", pair(stamp(3), stamp(6)))))
	wantRenamed(t, a, ints(2, 2), ints(2, 7), a)
	// Lists of unlike lengths: as far as both go.
	wantRenamed(t, a, ints(2, 3), ints(6), abs(ints(1), typ("t", fn(stamp(1), stamp(6))), val("x", pair(stamp(3), stamp(6)))))
	wantRenamed(t, a, ints(3), ints(6, 7), abs(ints(1), typ("t", fn(stamp(1), stamp(2))), val("x", pair(stamp(6), stamp(2)))))
	wantRenamed(t, a, ints(2, 3), nil, a)
	wantRenamed(t, a, nil, ints(2, 3), a)
	wantRenamed(t, a, ints(9, 2, 2), ints(8, 6), abs(ints(1), typ("t", fn(stamp(1), stamp(6))), val("x", pair(stamp(3), stamp(6)))))
	// What is bound, or stands nowhere, is not renamed.
	wantRenamed(t, a, ints(1, 9), ints(5, 6), a)
	// Numbers of any size.
	wantRenamed(t, a, ints(2, 3), ints(math.MinInt, math.MaxInt), abs(ints(1), typ("t", fn(stamp(1), stamp(math.MinInt))), val("x", pair(stamp(math.MaxInt), stamp(math.MinInt)))))
	// Lists are not put in order, and what stands at the same place stays there.
	unsorted := abs(ints(8, 8, 9), val("y", stamp(2)), val("x", node(api.TStamp, 2, stamp(2), gen(2), node(api.TMeta, 2))), typ("t", stamp(2), ctor("B", stamp(2)), ctor("A", stamp(2), stamp(2))))
	wantRenamed(t, unsorted, ints(2), ints(7), abs(ints(8, 8, 9), val("y", stamp(7)), val("x", node(api.TStamp, 7, stamp(7), gen(2), node(api.TMeta, 2))), typ("t", stamp(7), ctor("B", stamp(7)), ctor("A", stamp(7), stamp(7)))))
}

// TestP1304RenameInner: free stamps within functors and signatures are renamed, bound ones are not, and binders that catch nothing keep their numbers.
func TestP1304RenameInner(t *testing.T) {
	at := func(two, three int) api.Abs {
		return abs(ints(1),
			sub("M", typ("t", stamp(two)), sub("N", val("x", stamp(three)))),
			functor("F", ints(2), str(typ("t", pair(stamp(2), stamp(three)))), abs(ints(4), typ("t", pair(stamp(2), stamp(4))), val("y", stamp(three)))),
			functor("G", nil, str(typ("t", stamp(three))), abs(ints(3), typ("t", pair(stamp(3), stamp(two))))),
			sig("S", ints(2), typ("t", stamp(2)), typ("u", stamp(three))),
			sig("T", ints(3), typ("t", stamp(two)), typ("u", stamp(3))),
		)
	}
	wantRenamed(t, at(2, 3), ints(2), ints(20), at(20, 3))
	wantRenamed(t, at(2, 3), ints(2, 3), ints(20, 30), at(20, 30))
	wantRenamed(t, at(2, 3), ints(2, 3), ints(2, 3), at(2, 3))
	// 7 is bound where 5 does not stand: nothing is caught there.
	apart := abs(nil, typ("t", stamp(5)), sig("S", ints(7), typ("t", stamp(7))), functor("F", ints(7), str(typ("t", stamp(7))), abs(nil)))
	wantRenamed(t, apart, ints(5), ints(7), abs(nil, typ("t", stamp(7)), apart.S.Sigs[0], apart.S.Funs[0]))
	// Where 5 stands in a signature, and a binder of it binds 5, that one is not renamed.
	own := abs(nil, sig("S", ints(7), sig("T", ints(5), typ("t", pair(stamp(5), stamp(7))))))
	wantRenamed(t, own, ints(5), ints(7), own)
}

// renames: what Rename answers is the Abs with the free stamps renamed, up to the numbers of those that bind; and these are unlike only where they would catch.
func renames(t *testing.T, what string, a api.Abs, from, to []int) (caught int) {
	t.Helper()
	what = fmt.Sprint(what, ": Rename ", tell(a), from, to)
	got := env.Rename(a, from, to)
	becomes := renaming(from, to)
	same(t, what, nameless(got, func(n int) int { return n }), nameless(a, becomes))
	catch, was, is := catchers(a, becomes), binderLists(a), binderLists(got)
	for i, l := range was {
		for k, n := range l {
			if catch[i][k] {
				caught++
			}
			if (is[i][k] != n) != catch[i][k] {
				t.Fatalf("%s: binder %d has become %v, was %v, and catches %v", brief(what), i, is[i], l, catch[i])
			}
		}
	}
	return caught
}

// TestP1304Caught: stamps that bind, and would catch, are given others.
func TestP1304Caught(t *testing.T) {
	want := func(a api.Abs, from, to []int, caught int) {
		t.Helper()
		if n := renames(t, "caught", a, from, to); n != caught {
			t.Errorf("%d would be caught in %s, want %d", n, tell(a), caught)
		}
	}
	want(abs(ints(6), typ("t", pair(stamp(5), stamp(6)))), ints(5), ints(6), 1)
	want(abs(ints(6, 7), typ("t", pair(stamp(5), stamp(6))), typ("u", stamp(7))), ints(5), ints(6), 1)
	want(abs(ints(6, 7), typ("t", pair(stamp(5), stamp(6))), typ("u", pair(stamp(7), stamp(4)))), ints(5, 4), ints(6, 7), 2)
	// One that stands nowhere would catch, too.
	want(abs(ints(6), typ("t", stamp(5))), ints(5), ints(6), 1)
	// The numbers that would come next to mind stand somewhere, or come in.
	want(abs(ints(6), typ("t", pair(stamp(5), stamp(6))), val("x", pair(stamp(0), pair(stamp(1), stamp(2)))), sig("S", ints(3), val("y", stamp(4)))), ints(5, 2), ints(6, 7), 1)
	want(abs(ints(0), typ("t", pair(stamp(5), stamp(0))), val("x", stamp(3))), ints(5, 3), ints(0, 1), 1)
	want(abs(ints(0, 1, 2), typ("t", pair(stamp(5), pair(stamp(0), pair(stamp(1), stamp(2)))))), ints(5), ints(1), 1)
	// In a functor: by its Stamps in Arg and Res, by those of Res.
	want(abs(nil, functor("F", ints(6), str(typ("t", pair(stamp(6), stamp(5)))), abs(ints(6), typ("t", stamp(6))))), ints(5), ints(6), 1)
	want(abs(nil, functor("F", ints(6), str(typ("t", stamp(6))), abs(nil, typ("t", pair(stamp(6), stamp(5)))))), ints(5), ints(6), 1)
	want(abs(nil, functor("F", ints(6), str(typ("t", stamp(6))), abs(ints(6), typ("t", pair(stamp(6), stamp(5)))))), ints(5), ints(6), 2)
	want(abs(nil, functor("F", ints(7), str(typ("t", stamp(5))), abs(ints(6), typ("t", pair(stamp(6), stamp(7)))))), ints(5), ints(6), 0)
	// Binders within binders, of one number, and one between them.
	want(abs(ints(6), sig("S", ints(6), sub("M", sig("T", ints(7), typ("t", stamp(5))))), val("x", stamp(6))), ints(5), ints(6), 2)
	want(abs(ints(6), sig("S", ints(6), typ("t", stamp(6))), val("x", stamp(5))), ints(5), ints(6), 1)
	want(abs(ints(6), sig("S", ints(5), typ("t", stamp(5))), val("x", stamp(6))), ints(5), ints(6), 0)
	// Two in a row, of which one would catch.
	want(abs(nil, sig("S", ints(6), typ("t", pair(stamp(5), stamp(6)))), sig("T", ints(6), typ("t", stamp(6)))), ints(5), ints(6), 1)
	want(abs(nil, sig("S", ints(6), typ("t", stamp(6))), sig("T", ints(6), typ("t", pair(stamp(6), stamp(5))))), ints(5), ints(6), 1)
	// A number that is bound twice by one binder.
	want(abs(ints(6, 3, 6), typ("t", pair(stamp(6), pair(stamp(5), stamp(3))))), ints(5), ints(6), 2)
	want(abs(ints(math.MaxInt, math.MinInt), typ("t", pair(stamp(math.MaxInt), pair(stamp(-5), stamp(math.MinInt))))), ints(-5, 2), ints(math.MaxInt, math.MinInt), 1)
}

// TestP1304RenameChance: by chance, right and wild, against the chapter's words.
func TestP1304RenameChance(t *testing.T) {
	caught := 0
	for seed := range int64(12000) {
		m := newMaker(seed)
		a := m.abs(1 + m.Intn(4))
		var from, to []int
		for range m.Intn(5) {
			from = append(from, m.stampNumber())
		}
		for range m.Intn(5) {
			to = append(to, m.stampNumber())
		}
		caught += min(renames(t, fmt.Sprint(seed), a, from, to), 1)
		// Its free stamps are those that are told.
		var want []int
		for _, n := range plainFree(a) {
			want = append(want, renaming(from, to)(n))
		}
		slices.Sort(want)
		wantFree(t, env.Rename(a, from, to), slices.Compact(want)...)
	}
	if caught < 1000 {
		t.Errorf("only %d would have caught something", caught)
	}
}

// TestP1304RenameBack: with numbers that stand nowhere, and back again, all is as it was.
func TestP1304RenameBack(t *testing.T) {
	for seed := range int64(3000) {
		a := newMaker(seed).abs(3)
		free := plainFree(a)
		var other []int
		for i := range free {
			other = append(other, 1000+i)
		}
		same(t, fmt.Sprint(seed), env.Rename(env.Rename(a, free, other), other, free), a)
		same(t, fmt.Sprint(seed), env.Rename(a, free, free), a)
	}
}
