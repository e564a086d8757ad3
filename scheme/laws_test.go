package scheme_test

import (
	"fmt"
	"math/rand"
	"slices"
	"testing"

	"wafer/api"
	"wafer/scheme"
	"wafer/types"
)

// TestP1201Generalise: what Generalise makes of a right type without TGen is right, and at least as general as each instance of it, and as the type itself.
func TestP1201Generalise(t *testing.T) {
	for seed := range int64(6000) {
		r := rand.New(rand.NewSource(seed))
		x := closed(r, 5)
		keep := chanceNumbers(r)
		s := scheme.Generalise(x, keep)
		if !types.RightScheme(s) {
			t.Fatalf("%d: Generalise(%s, %v): %s is not right", seed, brief(tell(x)), keep, brief(tellScheme(s)))
		}
		if !scheme.AtLeast(s, types.Mono(x)) {
			t.Fatalf("%d: %s is not at least as general as %s", seed, brief(tellScheme(s)), brief(tell(x)))
		}
		l := make([]api.Type, s.Gens)
		for i := range l {
			l[i] = chosen(r, list(closed(r, 3), open(r, 3)))
		}
		u, e := scheme.Instance(s, l)
		if e != api.OK {
			t.Fatalf("%d: Instance(%s, %s): %v", seed, brief(tellScheme(s)), brief(tellAll(l)), e)
		}
		if b := scheme.Canonical(types.Mono(u)); !scheme.AtLeast(s, b) {
			t.Fatalf("%d: %s is not at least as general as its instance %s", seed, brief(tellScheme(s)), brief(tellScheme(b)))
		}
	}
}

// TestP1201Match: Instance of a right scheme with the types that Match told is the other one's type.
func TestP1201Match(t *testing.T) {
	fits, big := 0, 0
	for seed := range int64(2500) {
		r := rand.New(rand.NewSource(seed))
		a := rightScheme(r, 5)
		b := instanceOf(r, a, 7)
		switch r.Intn(5) {
		case 0:
			b = rightScheme(r, 5)
		case 1:
			b = plainCanonical(of(0, putIn(a.T, slices.Repeat(list(full(251, open(r, 3))), a.Gens))))
		}
		l, ok := scheme.Match(a, b)
		if !ok {
			continue
		}
		if len(l) != a.Gens {
			t.Fatalf("%d: Match(%s, %s): %d types", seed, brief(tellScheme(a)), brief(tellScheme(b)), len(l))
		}
		want, wantError := b.T, api.OK
		if !types.Fits(b.T) {
			want, wantError = api.Type{}, api.ErrBig
			big++
		} else {
			fits++
		}
		wantInstance(t, a, l, want, wantError)
	}
	if fits < 500 || big < 100 {
		t.Errorf("only %d that fit and %d that are too big were tried", fits, big)
	}
}

// TestP1202Order: each right scheme is at least as general as itself, it goes on through a third one, and alike ones have one canonical form.
func TestP1202Order(t *testing.T) {
	r := rand.New(rand.NewSource(1202))
	l := slices.Concat(rights(), wrongs()[:40])
	for range 40 {
		s := rightScheme(r, 3)
		u := instanceOf(r, s, 2)
		l = append(l, s, u, instanceOf(r, u, 2), wildScheme(r, 3))
	}
	through := 0
	for i, a := range l {
		if got := scheme.AtLeast(a, a); got != types.RightScheme(a) || scheme.Alike(a, a) != got {
			t.Fatalf("AtLeast of %s and itself: %v", tellScheme(a), got)
		}
		for k, b := range l {
			if !scheme.AtLeast(a, b) {
				continue
			}
			if !types.RightScheme(a) || !types.RightScheme(b) {
				t.Fatalf("AtLeast(%s, %s), and one is not right", tellScheme(a), tellScheme(b))
			}
			if alike := tellScheme(scheme.Canonical(a)) == tellScheme(scheme.Canonical(b)); scheme.Alike(a, b) != alike || scheme.AtLeast(b, a) != alike {
				t.Fatalf("Alike(%s, %s): %v", tellScheme(a), tellScheme(b), scheme.Alike(a, b))
			}
			for m, c := range l {
				if !scheme.AtLeast(b, c) {
					continue
				}
				if i != k && k != m {
					through++
				}
				if !scheme.AtLeast(a, c) {
					t.Fatalf("AtLeast does not go on from %s through %s to %s", tellScheme(a), tellScheme(b), tellScheme(c))
				}
			}
		}
	}
	if through < 1000 {
		t.Errorf("only %d went on through a third one", through)
	}
}

// TestP1202Back: what Match told, one after the other, is what it tells at once.
func TestP1202Back(t *testing.T) {
	for seed := range int64(4000) {
		r := rand.New(rand.NewSource(seed))
		a := rightScheme(r, 4)
		b := instanceOf(r, a, 3)
		c := instanceOf(r, b, 3)
		first, ok1 := scheme.Match(a, b)
		then, ok2 := scheme.Match(b, c)
		once, ok3 := scheme.Match(a, c)
		if !ok1 || !ok2 || !ok3 {
			t.Fatalf("%d: %v, %v, %v", seed, ok1, ok2, ok3)
		}
		for i, x := range first {
			same(t, fmt.Sprint(seed, ": TGen ", i, " of ", tellScheme(a)), tell(once[i]), tell(putIn(x, then)))
		}
	}
}

// TestP1203: Generalise of what Instantiate made, with nothing kept but the scheme's own metas, is the scheme.
func TestP1203(t *testing.T) {
	back := func(s api.Scheme, next int, more ...int) {
		t.Helper()
		x, then, e := scheme.Instantiate(s, next)
		if e != api.OK || then != next+s.Gens {
			t.Fatalf("Instantiate(%s, %d): %d, %v", brief(tellScheme(s)), next, then, e)
		}
		wantGeneralise(t, x, append(types.Metas(s.T), more...), s)
	}
	for seed := range int64(5000) {
		r := rand.New(rand.NewSource(seed))
		s := rightScheme(r, 6)
		next := 0
		for _, n := range types.Metas(s.T) {
			next = max(next, n+1)
		}
		back(s, next)
		back(s, next+1+r.Intn(9))
		// A kept number that stands nowhere changes nothing.
		back(s, next, -1, next+s.Gens, next+s.Gens)
	}
	for _, s := range rights() {
		if slices.Max(append(types.Metas(s.T), 0)) < 1<<31-1 {
			back(s, 1<<31-1)
		}
	}
	back(of(1, fn(meta(1<<31-2), gen(0))), 1<<31-1)
}

// TestP1204: the metas of Generalise's type are those of the type that are kept, in their places.
func TestP1204(t *testing.T) {
	for seed := range int64(6000) {
		r := rand.New(rand.NewSource(seed))
		x := chosen(r, list(closed(r, 6), open(r, 6)))
		keep := chanceNumbers(r)
		s := scheme.Generalise(x, keep)
		var want []int
		for _, n := range types.Metas(x) {
			if slices.Contains(keep, n) {
				want = append(want, n)
			}
		}
		if got := types.Metas(s.T); !slices.Equal(got, want) {
			t.Fatalf("%d: Generalise(%s, %v): metas %v, want %v", seed, brief(tell(x)), keep, got, want)
		}
		if all := scheme.Generalise(x, types.Metas(x)); tellScheme(all) != tellScheme(scheme.Canonical(types.Mono(x))) {
			t.Fatalf("%d: Generalise(%s), all kept: %s", seed, brief(tell(x)), brief(tellScheme(all)))
		}
		if none := scheme.Generalise(x, nil); len(types.Metas(none.T)) != 0 || none.Gens != len(types.Metas(x))+len(types.Gens(x)) {
			t.Fatalf("%d: Generalise(%s), nothing kept: %s", seed, brief(tell(x)), brief(tellScheme(none)))
		}
	}
}

// TestGeneraliseNoneMixedUp: no two that were unlike become one, and what was one stays one.
func TestGeneraliseNoneMixedUp(t *testing.T) {
	for seed := range int64(4000) {
		r := rand.New(rand.NewSource(seed))
		x := wild(r, 6)
		s := scheme.Generalise(x, chanceNumbers(r))
		was, is := line(x), line(s.T)
		if len(was) != len(is) {
			t.Fatalf("%d: %d nodes, want %d", seed, len(is), len(was))
		}
		for i, a := range was {
			for k, b := range was {
				one := a.Kind == b.Kind && a.N == b.N
				if now := is[i].Kind == is[k].Kind && is[i].N == is[k].N; now != one {
					t.Fatalf("%d: %s and %s of %s become %s and %s", seed, brief(tell(a)), brief(tell(b)), brief(tell(x)), brief(tell(is[i])), brief(tell(is[k])))
				}
			}
		}
	}
}
