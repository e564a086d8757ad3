package types_test

import (
	"math"
	"math/rand"
	"slices"
	"testing"

	"wafer/api"
	"wafer/types"
)

func wantRight(t *testing.T, x api.Type, want bool) {
	t.Helper()
	if got := types.Right(x); got != want {
		t.Errorf("Right of %s: %v", brief(tell(x)), got)
	}
}

func wantScheme(t *testing.T, gens int, x api.Type, want bool) {
	t.Helper()
	if got := types.RightScheme(api.Scheme{Gens: gens, T: x}); got != want {
		t.Errorf("RightScheme of Gens %d, %s: %v", gens, brief(tell(x)), got)
	}
}

func TestF81RightNodes(t *testing.T) {
	for _, a := range leaves() {
		wantRight(t, a, true)
		a.Kids = []api.Type{}
		wantRight(t, a, true)
		for _, b := range leaves() {
			wantRight(t, fn(a, b), true)
			wantRight(t, pair(a, b), true)
			wantRight(t, fn(pair(a, b), fn(b, a)), true)
		}
	}
	for _, a := range wrongs() {
		wantRight(t, a, false)
	}
	wantRight(t, api.Type{}, false)
}

// TestF81RightNumbers: every kind with every number at an edge, and with none to three Kids.
func TestF81RightNumbers(t *testing.T) {
	for kind := -1; kind <= 10; kind++ {
		for _, n := range edges() {
			for kids := range 4 {
				want := false
				switch kind {
				case api.TInt, api.TBool, api.TUnit:
					want = n == 0 && kids == 0
				case api.TFn, api.TPair:
					want = n == 0 && kids == 2
				case api.TStamp, api.TMeta, api.TGen:
					want = n >= 0 && kids == 0
				}
				wantRight(t, node(kind, n, slices.Repeat([]api.Type{unit()}, kids)...), want)
			}
		}
	}
}

// TestF81RightWithin: a node that is not right, anywhere within one that is.
func TestF81RightWithin(t *testing.T) {
	for _, a := range wrongs() {
		for _, b := range leaves() {
			for _, kind := range []int{api.TFn, api.TPair} {
				wantRight(t, node(kind, 0, a, b), false)
				wantRight(t, node(kind, 0, b, a), false)
				wantRight(t, node(kind, 0, node(kind, 0, b, a), b), false)
				wantRight(t, node(kind, 0, b, node(kind, 0, a, b)), false)
			}
		}
	}
	for side := range 3 {
		for _, nodes := range []int{999, 1001, 100001} {
			wantRight(t, chain(nodes, side, meta(1)), true)
			wantRight(t, chain(nodes, side, meta(-1)), false)
			wantRight(t, chain(nodes+1, side, meta(1)), false)
		}
	}
	wantRight(t, doubled(17, gen(3)), true)
	wantRight(t, doubled(17, node(api.TInt, 1)), false)
}

func TestF81RightScheme(t *testing.T) {
	a, b, c := gen(0), gen(1), gen(2)
	wantScheme(t, 2, fn(b, a), false)
	wantScheme(t, 1, integer(), false)

	wantScheme(t, 0, integer(), true)
	wantScheme(t, 0, fn(stamp(1), meta(2)), true)
	wantScheme(t, 1, a, true)
	wantScheme(t, 1, fn(a, a), true)
	wantScheme(t, 2, fn(a, b), true)
	wantScheme(t, 2, fn(a, pair(b, a)), true)
	wantScheme(t, 3, fn(pair(a, b), fn(a, pair(c, b))), true)

	// Out of order, missing, beyond Gens, fewer than Gens.
	wantScheme(t, 3, fn(a, pair(c, b)), false)
	wantScheme(t, 3, fn(a, pair(a, c)), false)
	wantScheme(t, 2, fn(a, c), false)
	wantScheme(t, 1, b, false)
	wantScheme(t, 2, b, false)
	wantScheme(t, 2, a, false)
	wantScheme(t, 1, fn(a, b), false)
	wantScheme(t, 0, a, false)
	wantScheme(t, 0, fn(a, b), false)
	wantScheme(t, 1, fn(a, gen(math.MaxInt)), false)
	wantScheme(t, 2, fn(a, gen(math.MaxInt)), false)
}

func TestF81RightSchemeEdges(t *testing.T) {
	for _, gens := range []int{math.MinInt, -2, -1} {
		for _, x := range []api.Type{integer(), gen(0), gen(-1), fn(gen(0), gen(1)), fn(stamp(1), meta(1))} {
			wantScheme(t, gens, x, false)
		}
	}
	for _, gens := range []int{1, 2, 1 << 31, math.MaxInt} {
		wantScheme(t, gens, integer(), false)
		wantScheme(t, gens, fn(integer(), gen(1)), false)
	}
	wantScheme(t, math.MaxInt, gen(0), false)
	for _, x := range wrongs() {
		wantScheme(t, 0, x, false)
		wantScheme(t, 1, x, false)
		wantScheme(t, 1, fn(gen(0), x), false)
		wantScheme(t, 1, fn(x, gen(0)), false)
	}
	for _, kids := range [][]api.Type{{gen(0)}, {gen(0), gen(1), gen(2)}} {
		wantScheme(t, len(kids), node(api.TFn, 0, kids...), false)
	}
	wantScheme(t, 0, api.Type{}, false)
}

// TestF81RightSchemeMany: more open places than a type of MaxType nodes has room for.
func TestF81RightSchemeMany(t *testing.T) {
	const many = 50000
	x := gen(many - 1)
	for i := many - 2; i >= 0; i-- {
		x = fn(gen(i), x)
	}
	wantScheme(t, many, x, true)
	wantScheme(t, many-1, x, false)
	wantScheme(t, many+1, x, false)
	wantScheme(t, many, fn(gen(0), x), true)
	wantScheme(t, many, fn(gen(1), x), false)
	wantScheme(t, many, fn(x, gen(0)), true)
	wantScheme(t, many+1, fn(x, gen(many)), true)
	wantScheme(t, many+1, fn(x, gen(many+1)), false)
}

// TestF81RightSchemeAll: of all orders of four TGen below 4 those are right that count up from 0.
func TestF81RightSchemeAll(t *testing.T) {
	for code := range 256 {
		l := []int{code % 4, code / 4 % 4, code / 16 % 4, code / 64}
		next := 0
		for _, n := range l {
			if n > next {
				next = -10
			}
			if n == next {
				next++
			}
		}
		x := fn(pair(gen(l[0]), gen(l[1])), pair(gen(l[2]), gen(l[3])))
		for gens := -1; gens <= 5; gens++ {
			wantScheme(t, gens, x, next == gens && next >= 0)
		}
	}
}

// countUp: a naive count of nodes.
func countUp(x api.Type) int {
	n := 1
	for _, kid := range x.Kids {
		n += countUp(kid)
	}
	return n
}

func wantSize(t *testing.T, x api.Type, want int) {
	t.Helper()
	if got := types.Size(x); got != want {
		t.Errorf("Size: %d, want %d", got, want)
	}
	if got := types.Fits(x); got != (want <= api.MaxType) {
		t.Errorf("Fits of a type of Size %d: %v", want, got)
	}
}

func TestF81SizeAndFits(t *testing.T) {
	for _, x := range leaves() {
		wantSize(t, x, 1)
		wantSize(t, fn(x, pair(x, x)), 5)
	}
	wantSize(t, api.Type{}, 1)
	for _, x := range wrongs() {
		wantSize(t, x, 1+len(x.Kids))
	}
	for _, nodes := range []int{2, 3, 500, 998, 999, 1000, 1001, 1002, 1003, 2000, 65536, 100001} {
		want := min(nodes, api.MaxType+1)
		for side := range 3 {
			wantSize(t, chain(nodes, side, unit()), want)
		}
		wantSize(t, broad(nodes, unit()), want)
		wantSize(t, broad(nodes, node(0, -1)), want)
	}
}

// TestF81SizeStops: what comes behind the limit is not gone through.
func TestF81SizeStops(t *testing.T) {
	for _, depth := range []int{10, 20, 30} {
		wantSize(t, doubled(depth, unit()), api.MaxType+1)
	}
	wantSize(t, doubled(9, unit()), 511)
	wantSize(t, fn(chain(997, 0, unit()), unit()), 999)
	wantSize(t, node(api.TFn, 0, chain(997, 0, unit()), unit(), unit()), 1000)
	wantSize(t, node(api.TFn, 0, chain(997, 0, unit()), unit(), unit(), unit()), 1001)
	wantSize(t, fn(chain(999, 0, unit()), doubled(30, unit())), 1001)
}

// TestP804Size: one, and the Sizes of Kids, as far as it fits.
func TestP804Size(t *testing.T) {
	r := rand.New(rand.NewSource(804))
	seen := [3]int{}
	for range 3000 {
		x := wild(r, 1+r.Intn(12))
		sum := 1
		for _, kid := range x.Kids {
			sum += types.Size(kid)
		}
		wantSize(t, x, min(sum, api.MaxType+1))
		wantSize(t, x, min(countUp(x), api.MaxType+1))
		switch {
		case sum > api.MaxType:
			seen[0]++
		case sum > 100:
			seen[1]++
		default:
			seen[2]++
		}
	}
	if seen[0] < 10 || seen[1] < 10 || seen[2] < 10 {
		t.Errorf("sizes by chance are of one sort: %v", seen)
	}
}
