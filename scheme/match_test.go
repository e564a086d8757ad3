package scheme_test

import (
	"fmt"
	"math"
	"math/rand"
	"testing"

	"wafer/api"
	"wafer/scheme"
)

// wantMatch: Match answers so, and AtLeast its truth.
func wantMatch(t *testing.T, a, b api.Scheme, want []api.Type, ok bool) {
	t.Helper()
	got, gotOK := scheme.Match(a, b)
	call := fmt.Sprint("Match of ", brief(tellScheme(a)), " and ", brief(tellScheme(b)))
	same(t, call, fmt.Sprint(tellAll(got), gotOK), fmt.Sprint(tellAll(want), ok))
	if scheme.AtLeast(a, b) != ok {
		t.Fatalf("%s is %v, AtLeast is not", call, ok)
	}
}

func matches(t *testing.T, a, b api.Scheme, want ...api.Type) {
	t.Helper()
	wantMatch(t, a, b, want, true)
}

func fails(t *testing.T, a, b api.Scheme) {
	t.Helper()
	wantMatch(t, a, b, nil, false)
}

func TestF123Match(t *testing.T) {
	a, b, c, i := gen(0), gen(1), gen(2), integer()
	all, id, two := of(1, a), of(1, fn(a, a)), of(2, fn(a, b))
	matches(t, of(0, i), of(0, i))
	matches(t, all, of(0, i), i)
	matches(t, all, all, a)
	matches(t, all, two, fn(a, b))
	matches(t, id, id, a)
	matches(t, id, of(0, fn(i, i)), i)
	matches(t, id, of(1, fn(pair(a, a), pair(a, a))), pair(a, a))
	matches(t, two, id, a, a)
	matches(t, two, of(0, fn(i, unit())), i, unit())
	// The types come in the order of the TGen, not in that in which they are met.
	matches(t, of(3, pair(pair(a, b), fn(c, b))), of(0, pair(pair(i, unit()), fn(boolean(), unit()))), i, unit(), boolean())
	matches(t, of(3, pair(pair(a, b), fn(c, b))), of(3, pair(pair(a, b), fn(c, b))), a, b, c)
	// The TGen of the other scheme are its own: the same number may stand for something else.
	matches(t, of(2, fn(a, fn(b, a))), of(2, fn(fn(a, b), fn(a, fn(a, b)))), fn(a, b), a)
	matches(t, of(2, pair(fn(a, b), a)), of(2, pair(fn(fn(a, b), b), fn(a, b))), fn(a, b), b)
	matches(t, of(1, fn(i, a)), of(1, fn(i, fn(a, a))), fn(a, a))
	// A TGen that stands several times.
	matches(t, of(1, fn(a, fn(a, a))), of(0, fn(i, fn(i, i))), i)
	matches(t, of(1, pair(fn(a, a), pair(a, a))), of(1, pair(fn(fn(i, a), fn(i, a)), pair(fn(i, a), fn(i, a)))), fn(i, a))
}

func TestF123NoMatch(t *testing.T) {
	a, b, i := gen(0), gen(1), integer()
	id, two := of(1, fn(a, a)), of(2, fn(a, b))
	// A TGen that would have to be two types, the first of which is met now early, now late.
	for _, x := range []api.Type{boolean(), stamp(0), meta(0), a, fn(i, i), pair(i, i)} {
		gens := 0
		if x.Kind == api.TGen {
			gens = 1
		}
		fails(t, id, of(gens, fn(i, x)))
		fails(t, id, of(gens, fn(x, i)))
		fails(t, of(1, pair(a, pair(a, a))), of(gens, pair(i, pair(i, x))))
		fails(t, of(1, pair(a, pair(a, a))), of(gens, pair(i, pair(x, i))))
		fails(t, of(1, pair(a, pair(a, a))), of(gens, pair(x, pair(i, i))))
		fails(t, of(1, pair(pair(a, a), a)), of(gens, pair(pair(x, i), i)))
		fails(t, of(1, fn(a, a)), of(gens, fn(fn(unit(), i), fn(unit(), x))))
		fails(t, of(1, fn(a, a)), of(gens, fn(fn(x, unit()), fn(i, unit()))))
	}
	fails(t, id, two)
	fails(t, of(2, fn(a, pair(b, a))), of(2, fn(a, pair(b, b))))
	// What a leaves closed is not open because b leaves it open.
	fails(t, of(0, i), of(1, a))
	fails(t, of(0, fn(i, i)), id)
	fails(t, of(1, fn(a, i)), id)
	fails(t, of(1, fn(a, i)), two)
	// A type that would have to be a part of itself: the TGen of both are not the same ones.
	matches(t, of(2, fn(a, b)), of(1, fn(a, pair(a, a))), a, pair(a, a))
	fails(t, id, of(1, fn(a, pair(a, a))))
	// Kinds that part, with the same Kids.
	fails(t, two, of(2, pair(a, b)))
	fails(t, of(2, pair(a, b)), two)
	fails(t, of(0, fn(i, i)), of(0, pair(i, i)))
	fails(t, two, of(0, i))
	fails(t, of(1, fn(fn(i, i), a)), of(0, fn(pair(i, i), i)))
}

// TestF123MetasAndStamps: each is the same as itself alone, but any of them may stand for a TGen.
func TestF123MetasAndStamps(t *testing.T) {
	numbers := []int{0, 1, 2, math.MaxInt32, math.MaxInt}
	leaves := []api.Type{integer(), boolean(), unit()}
	for _, n := range numbers {
		leaves = append(leaves, stamp(n), meta(n))
	}
	for i, x := range leaves {
		matches(t, of(1, gen(0)), of(0, x), x)
		matches(t, of(1, fn(gen(0), x)), of(0, fn(x, x)), x)
		fails(t, of(0, x), of(1, gen(0)))
		fails(t, of(1, fn(gen(0), x)), of(1, fn(gen(0), gen(0))))
		for k, y := range leaves {
			s := of(1, fn(gen(0), pair(x, gen(0))))
			if i == k {
				matches(t, of(0, x), of(0, y))
				matches(t, s, of(0, fn(integer(), pair(y, integer()))), integer())
				matches(t, s, s, gen(0))
				continue
			}
			fails(t, of(0, x), of(0, y))
			fails(t, of(0, fn(x, x)), of(0, fn(x, y)))
			fails(t, of(0, fn(x, x)), of(0, fn(y, x)))
			fails(t, s, of(0, fn(integer(), pair(y, integer()))))
			fails(t, of(1, fn(gen(0), gen(0))), of(0, fn(x, y)))
		}
	}
}

// TestF123NotRight: with a scheme that is not right nothing matches, not even itself.
func TestF123NotRight(t *testing.T) {
	for _, w := range wrongs() {
		fails(t, w, w)
		for _, s := range []api.Scheme{of(0, integer()), of(1, gen(0)), of(1, fn(gen(0), gen(0))), of(2, fn(gen(0), gen(1))), of(2, pair(gen(0), gen(1)))} {
			fails(t, w, s)
			fails(t, s, w)
			if scheme.Alike(w, s) || scheme.Alike(s, w) || scheme.Alike(w, w) {
				t.Fatalf("%s is alike", brief(tellScheme(w)))
			}
		}
	}
}

// TestF123Lists: a list without an element may be nil or empty.
func TestF123Lists(t *testing.T) {
	empty := func(kind, n int) api.Type { return api.Type{Kind: kind, N: n, Kids: []api.Type{}} }
	matches(t, of(0, empty(api.TInt, 0)), of(0, integer()))
	matches(t, of(0, integer()), of(0, empty(api.TInt, 0)))
	matches(t, of(1, fn(empty(api.TGen, 0), gen(0))), of(0, fn(empty(api.TStamp, 3), stamp(3))), stamp(3))
	matches(t, of(1, fn(gen(0), empty(api.TMeta, 2))), of(1, fn(empty(api.TGen, 0), meta(2))), gen(0))
	wantInstance(t, of(1, empty(api.TGen, 0)), list(empty(api.TInt, 0)), integer(), api.OK)
	wantInstantiate(t, of(1, empty(api.TGen, 0)), 4, meta(4), 5, api.OK)
	wantGeneralise(t, empty(api.TMeta, 3), []int{}, of(1, gen(0)))
	wantCanonical(t, of(0, empty(api.TGen, 3)), of(1, gen(0)))
}

// TestF123EachPair: right schemes that are unlike, each against each, and against what the chapter's words say.
func TestF123EachPair(t *testing.T) {
	l := rights()
	for i, a := range l {
		for k, b := range l {
			want, ok := plainMatch(a, b)
			wantMatch(t, a, b, want, ok)
			if got := scheme.Alike(a, b); got != (i == k) {
				t.Errorf("Alike(%s, %s): %v", tellScheme(a), tellScheme(b), got)
			}
		}
	}
}

func TestF123ByChance(t *testing.T) {
	r := rand.New(rand.NewSource(123))
	matched, missed := 0, 0
	for range 12000 {
		a, b := wildScheme(r, 3), wildScheme(r, 4)
		if r.Intn(2) == 0 {
			a = rightScheme(r, 3)
			b = instanceOf(r, a, 3)
		}
		if r.Intn(6) == 0 {
			b.T = spoiled(r, b.T)
			b = plainCanonical(b)
		}
		want, ok := plainMatch(a, b)
		wantMatch(t, a, b, want, ok)
		_, back := plainMatch(b, a)
		if got := scheme.Alike(a, b); got != (ok && back) {
			t.Fatalf("Alike(%s, %s): %v", tellScheme(a), tellScheme(b), got)
		}
		switch {
		case ok:
			matched++
		case plainRightScheme(a) && plainRightScheme(b):
			missed++
		}
	}
	if matched < 2000 || missed < 2000 {
		t.Errorf("only %d that match and %d that don't were tried", matched, missed)
	}
}

// instanceOf: a right scheme that is less general than a right one, or as general, by chance.
func instanceOf(r *rand.Rand, s api.Scheme, depth int) api.Scheme {
	by := make([]api.Type, s.Gens)
	for i := range by {
		by[i] = open(r, depth)
	}
	return plainCanonical(of(0, putIn(s.T, by)))
}

// spoiled: a type with one of its leaves, by chance, changed.
func spoiled(r *rand.Rand, x api.Type) api.Type {
	if len(x.Kids) == 0 {
		return chosen(r, list(integer(), stamp(5), meta(5), gen(0), gen(1)))
	}
	y := api.Type{Kind: x.Kind, N: x.N, Kids: append(list(), x.Kids...)}
	i := r.Intn(len(y.Kids))
	y.Kids[i] = spoiled(r, y.Kids[i])
	return y
}
