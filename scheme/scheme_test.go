package scheme_test

import (
	"fmt"
	"math"
	"math/rand"
	"slices"
	"testing"

	"wafer/api"
	"wafer/scheme"
	"wafer/types"
)

func TestExamples(t *testing.T) {
	s := scheme.Generalise(fn(meta(3), fn(meta(1), meta(3))), []int{1})
	same(t, "Generalise", fmt.Sprint(s.Gens, " ", types.SchemeText(s)), "1 'a -> ?1 -> 'a")
	x, next, e := scheme.Instantiate(of(2, fn(gen(1), fn(gen(0), gen(1)))), 7)
	same(t, "Instantiate of what is not right", fmt.Sprint(tell(x), next, int(e)), "0:00 1")
	x, next, e = scheme.Instantiate(of(2, fn(gen(0), fn(gen(1), gen(0)))), 7)
	same(t, "Instantiate", fmt.Sprint(types.Text(x), ", ", next, int(e)), "?7 -> ?8 -> ?7, 9 0")
	l, ok := scheme.Match(of(2, fn(gen(0), gen(1))), of(1, fn(pair(gen(0), integer()), gen(0))))
	same(t, "Match", fmt.Sprint(tellAll(l), ok), fmt.Sprint(tellAll(list(pair(gen(0), integer()), gen(0))), true))
	id, ints := of(1, fn(gen(0), gen(0))), of(0, fn(integer(), integer()))
	same(t, "AtLeast, AtLeast, Alike", fmt.Sprint(scheme.AtLeast(id, ints), scheme.AtLeast(ints, id), scheme.Alike(of(2, fn(gen(0), gen(1))), id)), "true false false")
	c := scheme.Canonical(of(9, fn(gen(2), gen(0))))
	same(t, "Canonical", fmt.Sprint(c.Gens, " ", types.SchemeText(c)), "2 'a -> 'b")
}

// wantCanonical: Canonical answers so.
func wantCanonical(t *testing.T, s, want api.Scheme) {
	t.Helper()
	same(t, "Canonical of "+tellScheme(s), tellScheme(scheme.Canonical(s)), tellScheme(want))
}

func TestF121Canonical(t *testing.T) {
	a, b, c := gen(0), gen(1), gen(2)
	for _, n := range edges() {
		// Gens of what comes in says nothing.
		wantCanonical(t, of(n, integer()), of(0, integer()))
		wantCanonical(t, of(n, fn(gen(7), gen(3))), of(2, fn(a, b)))
		wantCanonical(t, of(n, api.Type{}), of(0, api.Type{}))
		// Any number is one.
		wantCanonical(t, of(1, gen(n)), of(1, a))
		wantCanonical(t, of(1, fn(gen(n), gen(n))), of(1, fn(a, a)))
		wantCanonical(t, of(2, fn(gen(n), pair(gen(5), gen(n)))), of(2, fn(a, pair(b, a))))
		wantCanonical(t, of(2, fn(gen(5), pair(gen(n), gen(5)))), of(2, fn(a, pair(b, a))))
		// Metas and stamps stay, also where a TGen has their number.
		wantCanonical(t, of(0, fn(meta(n), pair(gen(n), stamp(n)))), of(1, fn(meta(n), pair(a, stamp(n)))))
	}
	wantCanonical(t, of(0, fn(c, fn(a, fn(b, fn(a, c))))), of(3, fn(a, fn(b, fn(c, fn(b, a))))))
	wantCanonical(t, of(0, fn(gen(-1), fn(gen(1), fn(gen(-1), gen(0))))), of(3, fn(a, fn(b, fn(a, c)))))
	wantCanonical(t, of(0, pair(pair(b, b), pair(a, b))), of(2, pair(pair(a, a), pair(b, a))))
	wantCanonical(t, of(0, pair(gen(100), pair(gen(10), gen(1000)))), of(3, pair(a, pair(b, c))))
	for _, s := range rights() {
		wantCanonical(t, s, s)
	}
}

// TestF121CanonicalOfAnyData: each node keeps what it has but the number of a TGen, and those in the Kids of a TGen count behind it.
func TestF121CanonicalOfAnyData(t *testing.T) {
	a, b, c := gen(0), gen(1), gen(2)
	wantCanonical(t, of(7, node(api.TGen, 4, gen(2), gen(4), gen(9))), of(3, node(api.TGen, 0, b, a, c)))
	wantCanonical(t, of(7, node(api.TInt, 3, gen(5), node(9, -2, gen(1), gen(5)))), of(2, node(api.TInt, 3, a, node(9, -2, b, a))))
	wantCanonical(t, of(7, node(api.TMeta, 3, gen(5))), of(1, node(api.TMeta, 3, a)))
	wantCanonical(t, of(7, node(api.TFn, 1, gen(5))), of(1, node(api.TFn, 1, a)))
	for _, s := range wrongs() {
		wantCanonical(t, s, plainCanonical(s))
	}
	r := rand.New(rand.NewSource(121))
	for range 6000 {
		s := wildScheme(r, 6)
		wantCanonical(t, s, plainCanonical(s))
		wantCanonical(t, scheme.Canonical(s), scheme.Canonical(s))
	}
}

// wantGeneralise: Generalise answers so.
func wantGeneralise(t *testing.T, x api.Type, keep []int, want api.Scheme) {
	t.Helper()
	same(t, fmt.Sprint("Generalise of ", brief(tell(x)), " keep ", brief(fmt.Sprint(keep))), tellScheme(scheme.Generalise(x, keep)), tellScheme(want))
}

func TestF121Generalise(t *testing.T) {
	a, b, c, d := gen(0), gen(1), gen(2), gen(3)
	for _, n := range edges() {
		m := meta(n)
		wantGeneralise(t, m, nil, of(1, a))
		wantGeneralise(t, m, []int{n}, of(0, m))
		wantGeneralise(t, m, []int{n, n, n}, of(0, m))
		wantGeneralise(t, m, []int{5, 6, 5}, of(1, a))
		wantGeneralise(t, fn(m, m), []int{}, of(1, fn(a, a)))
		wantGeneralise(t, fn(m, pair(meta(5), m)), []int{n}, of(1, fn(m, pair(a, m))))
		wantGeneralise(t, fn(m, pair(meta(5), m)), []int{5}, of(1, fn(a, pair(meta(5), a))))
		wantGeneralise(t, fn(m, pair(meta(5), m)), nil, of(2, fn(a, pair(b, a))))
		// Only numbers of metas are kept, whatever has the same ones.
		wantGeneralise(t, fn(stamp(n), m), []int{n}, of(0, fn(stamp(n), m)))
		wantGeneralise(t, fn(gen(n), m), []int{n}, of(1, fn(a, m)))
		wantGeneralise(t, fn(gen(n), m), nil, of(2, fn(b, a)))
		wantGeneralise(t, fn(gen(n), stamp(n)), nil, of(1, fn(a, stamp(n))))
		wantGeneralise(t, fn(gen(n), gen(n)), []int{n}, of(1, fn(a, a)))
	}
	wantGeneralise(t, integer(), nil, of(0, integer()))
	wantGeneralise(t, fn(stamp(2), unit()), []int{0, 2}, of(0, fn(stamp(2), unit())))
	wantGeneralise(t, fn(meta(9), fn(meta(2), fn(meta(9), meta(4)))), nil, of(3, fn(a, fn(b, fn(a, c)))))
	wantGeneralise(t, fn(meta(9), fn(meta(2), fn(meta(9), meta(4)))), []int{4, 1, 9, -1}, of(1, fn(meta(9), fn(a, fn(meta(9), meta(4))))))
	// The TGen of the type itself come behind all that metas become, wherever they stand.
	wantGeneralise(t, pair(gen(0), pair(gen(1), pair(meta(0), meta(1)))), nil, of(4, pair(c, pair(d, pair(a, b)))))
	wantGeneralise(t, pair(gen(1), pair(gen(0), pair(meta(1), meta(0)))), nil, of(4, pair(c, pair(d, pair(a, b)))))
	wantGeneralise(t, pair(gen(1), pair(gen(0), pair(meta(1), meta(0)))), []int{1}, of(3, pair(b, pair(c, pair(meta(1), a)))))
	wantGeneralise(t, pair(gen(8), pair(meta(0), pair(gen(-3), gen(8)))), nil, of(3, pair(b, pair(a, pair(c, b)))))
	wantGeneralise(t, pair(meta(0), gen(0)), []int{0}, of(1, pair(meta(0), a)))
}

// TestF121GeneraliseOfAnyData: each node keeps what it has but its kind and number.
func TestF121GeneraliseOfAnyData(t *testing.T) {
	a, b, c := gen(0), gen(1), gen(2)
	wantGeneralise(t, node(api.TMeta, 4, meta(2), meta(4), gen(4)), nil, of(3, node(api.TGen, 0, b, a, c)))
	wantGeneralise(t, node(api.TMeta, 4, meta(2), meta(4), gen(4)), []int{4}, of(2, node(api.TMeta, 4, a, meta(4), b)))
	wantGeneralise(t, node(api.TInt, 3, gen(5), node(9, -2, meta(1), gen(5))), nil, of(2, node(api.TInt, 3, b, node(9, -2, a, b))))
	wantGeneralise(t, api.Type{}, []int{0}, of(0, api.Type{}))
	for _, x := range wrongTypes() {
		wantGeneralise(t, x, nil, plainGeneralise(x, nil))
		wantGeneralise(t, x, []int{0}, plainGeneralise(x, []int{0}))
	}
	r := rand.New(rand.NewSource(1211))
	for range 6000 {
		x := wild(r, 6)
		keep := chanceNumbers(r)
		wantGeneralise(t, x, keep, plainGeneralise(x, keep))
	}
}

// chanceNumbers: few numbers by chance, some perhaps twice.
func chanceNumbers(r *rand.Rand) []int {
	var l []int
	for range r.Intn(6) {
		l = append(l, r.Intn(7)-2)
	}
	if r.Intn(5) == 0 {
		l = append(l, chosen(r, edges()))
	}
	return l
}

// wantInstantiate: Instantiate answers so.
func wantInstantiate(t *testing.T, s api.Scheme, next int, want api.Type, wantNext int, wantError api.Errno) {
	t.Helper()
	got, gotNext, e := scheme.Instantiate(s, next)
	same(t, fmt.Sprint("Instantiate of ", brief(tellScheme(s)), " from ", next), fmt.Sprint(tell(got), " ", gotNext, " ", int(e)), fmt.Sprint(tell(want), " ", wantNext, " ", int(wantError)))
}

func TestF122Instantiate(t *testing.T) {
	const most = math.MaxInt32
	one, three := of(1, fn(gen(0), gen(0))), of(3, fn(gen(0), fn(gen(1), pair(gen(0), gen(2)))))
	for _, next := range []int{0, 1, 7, most - 3, most - 1, most} {
		wantInstantiate(t, of(0, integer()), next, integer(), next, api.OK)
		wantInstantiate(t, of(0, fn(meta(4), stamp(2))), next, fn(meta(4), stamp(2)), next, api.OK)
		wantInstantiate(t, one, next, fn(meta(next), meta(next)), next+1, api.OK)
		wantInstantiate(t, three, next, fn(meta(next), fn(meta(next+1), pair(meta(next), meta(next+2)))), next+3, api.OK)
		// What the type has already stays, also if it has the same number.
		wantInstantiate(t, of(1, fn(meta(next), pair(stamp(0), gen(0)))), next, fn(meta(next), pair(stamp(0), meta(next))), next+1, api.OK)
	}
	for _, next := range []int{-1, math.MinInt32, math.MinInt, most + 1, most + 2, math.MaxUint32, math.MaxInt} {
		for _, s := range []api.Scheme{one, three, of(0, integer())} {
			wantInstantiate(t, s, next, api.Type{}, 0, api.ErrArg)
		}
	}
	for _, s := range wrongs() {
		for _, next := range []int{-1, 0, 7, most, most + 1} {
			wantInstantiate(t, s, next, api.Type{}, 0, api.ErrArg)
		}
	}
}

func TestF122InstantiateByChance(t *testing.T) {
	r := rand.New(rand.NewSource(122))
	for range 6000 {
		s := wildScheme(r, 6)
		next := chosen(r, append(edges(), 3, 3, 3, 12, 12))
		want, wantNext, wantError := plainInstantiate(s, next)
		wantInstantiate(t, s, next, want, wantNext, wantError)
	}
}

// wantInstance: Instance answers so.
func wantInstance(t *testing.T, s api.Scheme, l []api.Type, want api.Type, wantError api.Errno) {
	t.Helper()
	got, e := scheme.Instance(s, l)
	same(t, fmt.Sprint("Instance of ", brief(tellScheme(s)), " with ", brief(tellAll(l))), fmt.Sprint(tell(got), " ", int(e)), fmt.Sprint(tell(want), " ", int(wantError)))
}

func TestF122Instance(t *testing.T) {
	a, b, i := gen(0), gen(1), integer()
	two := of(2, fn(a, pair(b, a)))
	wantInstance(t, of(0, fn(meta(1), stamp(1))), nil, fn(meta(1), stamp(1)), api.OK)
	wantInstance(t, of(0, i), list(), i, api.OK)
	wantInstance(t, two, list(i, fn(i, unit())), fn(i, pair(fn(i, unit()), i)), api.OK)
	// In what is put in nothing is put in.
	wantInstance(t, two, list(b, a), fn(b, pair(a, b)), api.OK)
	wantInstance(t, two, list(fn(a, gen(9)), b), fn(fn(a, gen(9)), pair(b, fn(a, gen(9)))), api.OK)
	// Types that are not right are put in as they are.
	for _, x := range wrongTypes() {
		wantInstance(t, of(1, fn(a, fn(i, a))), list(x), fn(x, fn(i, x)), api.OK)
	}
	for _, s := range rights() {
		l := make([]api.Type, s.Gens+3)
		for n := range l {
			l[n] = stamp(n)
			if n != s.Gens {
				wantInstance(t, s, l[:n], api.Type{}, api.ErrArg)
			}
		}
		wantInstance(t, s, l[:s.Gens], putIn(s.T, l), api.OK)
	}
}

// TestF122InstanceErrors: a scheme that is not right and a wrong number of types are ErrArg, ahead of what would be too big.
func TestF122InstanceErrors(t *testing.T) {
	huge := full(api.MaxType+1, integer())
	for _, s := range wrongs() {
		for count := range 5 {
			wantInstance(t, s, slices.Repeat(list(integer()), count), api.Type{}, api.ErrArg)
			wantInstance(t, s, slices.Repeat(list(huge), count), api.Type{}, api.ErrArg)
		}
	}
	two := of(2, fn(gen(0), gen(1)))
	for _, count := range []int{0, 1, 3, 4} {
		wantInstance(t, two, slices.Repeat(list(huge), count), api.Type{}, api.ErrArg)
	}
	wantInstance(t, two, list(huge, integer()), api.Type{}, api.ErrBig)
	wantInstance(t, of(0, huge), list(integer()), api.Type{}, api.ErrArg)
	wantInstance(t, of(0, huge), nil, api.Type{}, api.ErrBig)
	wantInstance(t, of(1, fn(huge, gen(0))), list(integer(), integer()), api.Type{}, api.ErrArg)
	wantInstance(t, of(2, fn(huge, gen(0))), list(integer(), integer()), api.Type{}, api.ErrArg)
}

func TestF122InstanceByChance(t *testing.T) {
	r := rand.New(rand.NewSource(1222))
	fits, big := 0, 0
	for range 3000 {
		s := wildScheme(r, 6)
		count := min(max(s.Gens, 0), 6)
		if r.Intn(6) == 0 {
			count = r.Intn(5)
		}
		var l []api.Type
		for range count {
			l = append(l, chosen(r, list(wild(r, 3), closed(r, 4), full(151, wild(r, 2)))))
		}
		want, wantError := plainInstance(s, l)
		wantInstance(t, s, l, want, wantError)
		switch wantError {
		case api.OK:
			fits++
		case api.ErrBig:
			big++
		}
	}
	if fits < 300 || big < 30 {
		t.Errorf("only %d that fit and %d that are too big were tried", fits, big)
	}
}
