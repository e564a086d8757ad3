package types_test

import (
	"math"
	"math/rand"
	"slices"
	"testing"

	"wafer/api"
	"wafer/types"
)

// rising: types in their order, each below the next one.
func rising() []api.Type {
	i, b := integer(), boolean()
	return []api.Type{
		node(math.MinInt, math.MaxInt), node(-1, 0), node(0, 5, i, i),
		node(api.TInt, math.MinInt), node(api.TInt, -1, b), i, node(api.TInt, 0, i), node(api.TInt, 1), node(api.TInt, math.MaxInt),
		b, unit(),
		node(api.TFn, -1, stamp(9), stamp(9), stamp(9)),
		node(api.TFn, 0), node(api.TFn, 0, i), node(api.TFn, 0, stamp(9)),
		fn(i, i), fn(i, b), fn(i, stamp(3)), fn(b, i), fn(b, b), fn(unit(), i),
		fn(fn(i, i), i), fn(fn(i, b), i), fn(fn(b, i), i), fn(pair(i, i), i), fn(stamp(0), i), fn(stamp(1), i),
		node(api.TFn, 0, i, i, i), node(api.TFn, 0, i, b, i),
		node(api.TFn, 1), node(api.TFn, 1, i, i),
		pair(i, i), pair(i, fn(i, i)), pair(i, pair(i, i)), pair(i, gen(0)), pair(gen(0), i),
		stamp(math.MinInt), stamp(-1), stamp(0), node(api.TStamp, 0, i), stamp(1), stamp(2), stamp(10), stamp(math.MaxInt),
		meta(0), meta(1), gen(-1), gen(0), gen(1), node(api.TGen, 1, i), gen(2),
		node(9, 0), node(math.MaxInt, math.MinInt),
	}
}

func sign(a, b int) int {
	switch {
	case a < b:
		return -1
	case a > b:
		return 1
	}
	return 0
}

func TestF81CmpByTheOrder(t *testing.T) {
	l := rising()
	for i, a := range l {
		for j, b := range l {
			if got := types.Cmp(a, b); got != sign(i, j) {
				t.Errorf("Cmp(%s, %s): %d, want %d", tell(a), tell(b), got, sign(i, j))
			}
			if got := types.Same(a, b); got != (i == j) {
				t.Errorf("Same(%s, %s): %v", tell(a), tell(b), got)
			}
			// What stands in front of both changes nothing, and what stands behind is asked only where they are the same.
			if got := types.Cmp(fn(unit(), a), fn(unit(), b)); got != sign(i, j) {
				t.Errorf("Cmp of %s and %s, each the second one of a TFn: %d", tell(a), tell(b), got)
			}
			if got := types.Cmp(fn(a, gen(9)), fn(b, unit())); i != j && got != sign(i, j) || i == j && got != 1 {
				t.Errorf("Cmp of %s and %s, each the first one of a TFn: %d", tell(a), tell(b), got)
			}
		}
	}
}

// TestF81CmpHowMany: fewer Kids are below more, whatever they are.
func TestF81CmpHowMany(t *testing.T) {
	for kind := -1; kind <= 10; kind++ {
		few := node(kind, 0, node(math.MaxInt, math.MaxInt))
		many := node(kind, 0, node(math.MinInt, math.MinInt), node(math.MinInt, math.MinInt))
		if types.Cmp(few, many) != -1 || types.Cmp(many, few) != 1 {
			t.Errorf("kind %d: how many Kids there are does not count ahead of the Kids", kind)
		}
		if types.Cmp(node(kind, 1), node(kind, 0, integer())) != 1 || types.Cmp(node(kind+1, -1), node(kind, 0, integer())) != 1 {
			t.Errorf("kind %d: Kind and N don't count ahead of how many Kids there are", kind)
		}
	}
}

func TestF81NilAndEmptyKids(t *testing.T) {
	for kind := -1; kind <= 10; kind++ {
		a, b := api.Type{Kind: kind}, api.Type{Kind: kind, Kids: []api.Type{}}
		if types.Cmp(a, b) != 0 || types.Cmp(b, a) != 0 || !types.Same(a, b) || !types.Same(fn(b, a), fn(a, b)) {
			t.Errorf("kind %d: Kids that are nil and that are empty are not the same", kind)
		}
		if types.Text(a) != types.Text(b) || types.Right(a) != types.Right(b) || types.Size(b) != 1 {
			t.Errorf("kind %d: Kids that are nil and that are empty are not alike", kind)
		}
	}
}

func TestF81SameScheme(t *testing.T) {
	l := rising()
	numbers := []int{math.MinInt, -1, 0, 1, 2, math.MaxInt}
	for i, a := range l {
		for j, b := range l {
			for _, m := range numbers {
				for _, n := range numbers {
					want := i == j && m == n
					if got := types.SameScheme(api.Scheme{Gens: m, T: a}, api.Scheme{Gens: n, T: b}); got != want {
						t.Errorf("SameScheme of Gens %d, %s and Gens %d, %s: %v", m, tell(a), n, tell(b), got)
					}
				}
			}
		}
	}
}

// TestP801Order: turned round it is turned, it goes on through a third one, and is 0 of the same ones alone.
func TestP801Order(t *testing.T) {
	r := rand.New(rand.NewSource(801))
	l := slices.Concat(rising(), wrongs(), leaves())
	for range 60 {
		l = append(l, wild(r, 3), plain(r, 4))
	}
	for _, a := range l {
		for _, b := range l {
			ab := types.Cmp(a, b)
			if ab < -1 || ab > 1 || types.Cmp(b, a) != -ab {
				t.Fatalf("Cmp(%s, %s): %d, turned round %d", tell(a), tell(b), ab, types.Cmp(b, a))
			}
			if same := tell(a) == tell(b); same != (ab == 0) || same != types.Same(a, b) {
				t.Fatalf("Cmp(%s, %s): %d, Same: %v", tell(a), tell(b), ab, types.Same(a, b))
			}
			for _, c := range l {
				if ab <= 0 && types.Cmp(b, c) <= 0 && types.Cmp(a, c) > 0 {
					t.Fatalf("%s, %s, %s: the order does not go on", tell(a), tell(b), tell(c))
				}
			}
		}
	}
}

// TestP801OneChange: a type is never the same as itself with one node changed.
func TestP801OneChange(t *testing.T) {
	r := rand.New(rand.NewSource(8011))
	for range 2000 {
		a := wild(r, 6)
		if b := roomy(a); types.Cmp(a, b) != 0 || !types.Same(a, b) {
			t.Fatalf("%s is not the same as its copy", brief(tell(a)))
		}
		b := roomy(a)
		at := &b
		for len(at.Kids) > 0 && r.Intn(3) > 0 {
			at = &at.Kids[r.Intn(len(at.Kids))]
		}
		want := 0
		switch r.Intn(3) {
		case 0:
			at.Kind, want = at.Kind^1, sign(at.Kind, at.Kind^1)
		case 1:
			at.N, want = at.N^1, sign(at.N, at.N^1)
		default:
			at.Kids, want = append(at.Kids, integer()), -1
		}
		if types.Cmp(a, b) != want || types.Cmp(b, a) != -want || types.Same(a, b) {
			t.Fatalf("Cmp(%s, %s): %d, want %d", brief(tell(a)), brief(tell(b)), types.Cmp(a, b), want)
		}
	}
}

func TestP801Deep(t *testing.T) {
	for side := range 3 {
		a, b, c := chain(100001, side, stamp(1)), chain(100001, side, stamp(1)), chain(100001, side, stamp(2))
		if !types.Same(a, b) || types.Cmp(a, c) != -1 || types.Cmp(c, a) != 1 {
			t.Errorf("side %d: the end of a deep type does not count", side)
		}
	}
}
