package trans_test

import (
	"math"
	"testing"

	"wafer/api"
	"wafer/trans"
	"wafer/types"
)

func wantType(t *testing.T, x api.Type, want api.TT, wantCode api.Errno) {
	t.Helper()
	got, code := trans.Type(x)
	answers(t, "Type "+tell(x), got, code, want, wantCode)
}

func wantScheme(t *testing.T, s api.Scheme, want api.TT, wantCode api.Errno) {
	t.Helper()
	got, code := trans.Scheme(s)
	answers(t, "Scheme "+tell(s), got, code, want, wantCode)
}

// becomes: a closed type, and its scheme, become that.
func becomes(t *testing.T, x api.Type, want api.TT) {
	t.Helper()
	wantType(t, x, want, api.OK)
	wantScheme(t, of(0, x), want, api.OK)
}

// refused: a type, and its scheme, wherever it stands, become nothing.
func refused(t *testing.T, x api.Type) {
	t.Helper()
	for _, y := range around(x) {
		wantType(t, y, api.TT{}, api.ErrArg)
		wantScheme(t, of(0, y), api.TT{}, api.ErrArg)
		wantScheme(t, of(1, pair(gen(0), y)), api.TT{}, api.ErrArg)
	}
}

// around: a type by itself, and at places in others.
func around(x api.Type) []api.Type {
	return []api.Type{x, fn(x, integer()), fn(integer(), x), pair(x, unit()), pair(stamp(3), x), fn(pair(integer(), fn(boolean(), x)), stamp(1)), pair(stamp(1), fn(pair(x, integer()), stamp(2)))}
}

// TestF141Kinds: what each kind of type becomes.
func TestF141Kinds(t *testing.T) {
	becomes(t, integer(), gint())
	becomes(t, boolean(), gbool())
	becomes(t, unit(), gunit())
	becomes(t, fn(integer(), boolean()), gfn(gint(), gbool()))
	becomes(t, pair(boolean(), unit()), gpair(gbool(), gunit()))
	becomes(t, fn(fn(unit(), integer()), pair(boolean(), pair(integer(), unit()))), gfn(gfn(gunit(), gint()), gpair(gbool(), gpair(gint(), gunit()))))
	becomes(t, pair(pair(integer(), fn(boolean(), stamp(9))), fn(stamp(9), stamp(0))), gpair(gpair(gint(), gfn(gbool(), v(9))), gfn(v(9), v(0))))
	for _, n := range ints(0, 1, 3, 1000, 1<<16, 1<<20, top-1, top) {
		becomes(t, stamp(n), v(n))
		becomes(t, fn(stamp(n), pair(integer(), stamp(n))), gfn(v(n), gpair(gint(), v(n))))
	}
	// The chapter's example.
	becomes(t, fn(stamp(3), pair(integer(), boolean())), gfn(v(3), gpair(gint(), gbool())))
}

// wrongs: types that are not right.
func wrongs() []api.Type {
	l := []api.Type{
		{}, node(api.TInt, 1), node(api.TInt, -1), node(api.TBool, 2), node(api.TUnit, math.MinInt), node(api.TInt, 0, integer()), node(api.TBool, 0, integer(), integer()), node(api.TUnit, 0, unit()),
		node(api.TFn, 0), node(api.TFn, 0, integer()), node(api.TFn, 0, integer(), integer(), integer()), node(api.TFn, 1, integer(), integer()), node(api.TFn, -1, integer(), integer()),
		node(api.TPair, 0), node(api.TPair, 0, unit()), node(api.TPair, 0, unit(), unit(), unit()), node(api.TPair, math.MaxInt, unit(), unit()),
		node(api.TStamp, 3, integer()), node(api.TStamp, 3, integer(), integer()), node(api.TStamp, -1), node(api.TStamp, math.MinInt),
	}
	for _, kind := range noKinds() {
		l = append(l, node(kind, 0), node(kind, 2), node(kind, 0, integer(), integer()))
	}
	return l
}

// TestF141Wrong: types that are not right, and those with a TMeta.
func TestF141Wrong(t *testing.T) {
	for _, x := range wrongs() {
		if types.Right(x) {
			t.Fatalf("%s is right", tell(x))
		}
		refused(t, x)
	}
	for _, n := range ints(0, 1, 7, top, math.MaxInt, -1) {
		refused(t, meta(n))
	}
	refused(t, node(api.TMeta, 0, integer()))
}

// TestF141Stamps: stamps up to 2^31 - 1, and no others.
func TestF141Stamps(t *testing.T) {
	for _, n := range noStamps() {
		refused(t, stamp(n))
		refused(t, fn(stamp(top), stamp(n)))
		refused(t, pair(stamp(n), stamp(0)))
	}
}

// TestF141Gens: a type with a TGen becomes nothing; a scheme takes those that it leaves open.
func TestF141Gens(t *testing.T) {
	for _, n := range ints(0, 1, 25, top, math.MaxInt, -1, math.MinInt) {
		for _, x := range around(gen(n)) {
			wantType(t, x, api.TT{}, api.ErrArg)
			wantScheme(t, of(0, x), api.TT{}, api.ErrArg)
		}
	}
	for _, s := range []api.Scheme{
		of(1, integer()), of(2, gen(0)), of(-1, integer()), of(-1, gen(0)), of(math.MaxInt, gen(0)), of(math.MinInt, integer()), of(1, gen(1)), of(2, fn(gen(1), gen(0))), of(1, fn(gen(0), gen(1))), of(3, fn(gen(0), gen(2))),
		of(2, fn(gen(0), gen(2))), of(1, fn(gen(0), gen(-1))), of(1, fn(gen(0), meta(0))), of(1, fn(meta(0), gen(0))), of(1, fn(gen(0), stamp(top+1))), of(1, fn(stamp(-1), gen(0))), of(1, node(api.TGen, 0, integer())), of(1, pair(gen(0), node(api.TFn, 0))), of(3, pair(gen(0), pair(gen(2), gen(1)))),
	} {
		wantScheme(t, s, api.TT{}, api.ErrArg)
	}
}

// TestF141Schemes: which numbers are bound, in which order, and what stands for each TGen.
func TestF141Schemes(t *testing.T) {
	a, b, c := gen(0), gen(1), gen(2)
	// The chapter's example.
	wantScheme(t, of(1, fn(a, stamp(3))), all(4, gfn(v(4), v(3))), api.OK)
	// Without stamps the first one is 0.
	wantScheme(t, of(1, a), all(0, v(0)), api.OK)
	wantScheme(t, of(1, fn(a, a)), all(0, gfn(v(0), v(0))), api.OK)
	wantScheme(t, of(2, fn(a, fn(b, a))), all(0, all(1, gfn(v(0), gfn(v(1), v(0))))), api.OK)
	wantScheme(t, of(3, pair(fn(a, b), pair(integer(), fn(c, a)))), all(0, all(1, all(2, gpair(gfn(v(0), v(1)), gpair(gint(), gfn(v(2), v(0))))))), api.OK)
	// With stamps it is 1 more than the greatest one, wherever that stands.
	wantScheme(t, of(1, pair(a, stamp(0))), all(1, gpair(v(1), v(0))), api.OK)
	wantScheme(t, of(1, pair(stamp(0), a)), all(1, gpair(v(0), v(1))), api.OK)
	wantScheme(t, of(2, pair(pair(stamp(7), a), pair(b, stamp(2)))), all(8, all(9, gpair(gpair(v(7), v(8)), gpair(v(9), v(2))))), api.OK)
	wantScheme(t, of(2, pair(pair(stamp(2), a), pair(b, stamp(7)))), all(8, all(9, gpair(gpair(v(2), v(8)), gpair(v(9), v(7))))), api.OK)
	wantScheme(t, of(3, fn(fn(a, stamp(1)), fn(b, fn(c, pair(a, stamp(1)))))), all(2, all(3, all(4, gfn(gfn(v(2), v(1)), gfn(v(3), gfn(v(4), gpair(v(2), v(1)))))))), api.OK)
	wantScheme(t, of(1, fn(a, stamp(top-1))), all(top, gfn(v(top), v(top-1))), api.OK)
	wantScheme(t, of(1, fn(a, stamp(top))), all(top+1, gfn(v(top+1), v(top))), api.OK)
	wantScheme(t, of(3, fn(a, pair(stamp(top), fn(b, c)))), all(top+1, all(top+2, all(top+3, gfn(v(top+1), gpair(v(top), gfn(v(top+2), v(top+3))))))), api.OK)
	// Without Gens nothing is bound.
	wantScheme(t, of(0, stamp(5)), v(5), api.OK)
}

// TestF141Chance: types and schemes by chance, right and wild, against the chapter's words.
func TestF141Chance(t *testing.T) {
	codes := map[api.Errno]int{}
	bound := 0
	for seed := range int64(20000) {
		m := newMaker(seed)
		x := m.typeOf(1+m.Intn(6), m.Intn(2))
		y, ok := plainType(x, 0, 0)
		want, code := told(y, ok)
		wantType(t, x, want, code)
		codes[code]++
		s := m.scheme()
		want, code = plainScheme(s)
		wantScheme(t, s, want, code)
		codes[code]++
		if code == api.OK && s.Gens > 1 {
			bound++
		}
		if !m.wild && code != api.OK {
			t.Fatalf("%d: a right scheme: %v", seed, code)
		}
	}
	if codes[api.OK] < 10000 || codes[api.ErrArg] < 5000 || bound < 1000 {
		t.Errorf("%v, %d with several Gens", codes, bound)
	}
}
