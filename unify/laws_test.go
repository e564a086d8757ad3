package unify_test

import (
	"math/rand"
	"slices"
	"strconv"
	"testing"

	"wafer/api"
	"wafer/unify"
)

// eq: two types that are made the same.
type eq [2]api.Type

// ground: a type without metas of the store, by chance.
func ground(r *rand.Rand, depth int) api.Type {
	if depth <= 1 || r.Intn(5) == 0 {
		return chosen(r, []api.Type{integer(), boolean(), stamp(0), gen(0), meta(-1), node(9, 0), meta(1000)})
	}
	if r.Intn(12) == 0 {
		return node(9, 1, ground(r, depth-1), ground(r, depth-1), ground(r, depth-1))
	}
	return node(chosen(r, []int{api.TFn, api.TPair}), 0, ground(r, depth-1), ground(r, depth-1))
}

// putFor: types for so many metas, of which some are parts of others and some are the same.
func putFor(r *rand.Rand, count int) map[int]api.Type {
	by := map[int]api.Type{}
	for n := range count {
		switch {
		case n > 0 && r.Intn(4) == 0:
			by[n] = by[r.Intn(n)]
		case n > 0 && r.Intn(2) == 0:
			by[n] = pair(by[r.Intn(n)], ground(r, 2))
		default:
			by[n] = ground(r, 3)
		}
	}
	return by
}

// hidden: a type that becomes x with those types put in: here and there a meta stands for its part, if one has just that.
func hidden(r *rand.Rand, x api.Type, count int, by map[int]api.Type) api.Type {
	if r.Intn(3) > 0 {
		for _, n := range r.Perm(count) {
			if tell(by[n]) == tell(x) {
				return meta(n)
			}
		}
	}
	y := api.Type{Kind: x.Kind, N: x.N}
	for _, kid := range x.Kids {
		y.Kids = append(y.Kids, hidden(r, kid, count, by))
	}
	return y
}

// solvable: pairs that become the same with those types put in.
func solvable(r *rand.Rand, count int, by map[int]api.Type) []eq {
	var l []eq
	for range 1 + r.Intn(8) {
		x := by[r.Intn(count)]
		if r.Intn(3) == 0 {
			x = fn(x, by[r.Intn(count)])
		}
		l = append(l, eq{hidden(r, x, count, by), hidden(r, x, count, by)})
	}
	return l
}

// TestP1105: pairs that can become the same are taken, both of each have one resolved type, and whatever makes all of them the same makes a type and its resolved type the same.
func TestP1105(t *testing.T) {
	const count = 6
	for seed := range int64(6000) {
		r := rand.New(rand.NewSource(seed))
		by := putFor(r, count)
		l := solvable(r, count, by)
		s := withMetas(count)
		for i, p := range l {
			if e := s.Unify(p[0], p[1]); e != api.OK {
				t.Fatalf("%d: Unify(%s, %s): %v", seed, brief(p[0]), brief(p[1]), e)
			}
			for _, q := range l[:i+1] {
				x, _ := s.Resolve(q[0])
				comes(t, s, q[1], x)
			}
		}
		for range 8 {
			x := plainType(r, count, 4)
			got, e := s.Resolve(x)
			if e != api.OK || tell(putIn(got, by)) != tell(putIn(x, by)) {
				t.Fatalf("%d: Resolve(%s): %s, %v, which says too much", seed, brief(x), brief(got), e)
			}
			comes(t, s, got, got)
		}
	}
}

// TestP1105Least: the resolved types themselves, put in for their metas, make all pairs the same, and what is open may be anything.
func TestP1105Least(t *testing.T) {
	const count = 5
	taken := 0
	for seed := range int64(4000) {
		r := rand.New(rand.NewSource(seed))
		s := withMetas(count)
		var l []eq
		for range 5 {
			p := eq{wildType(r, count, 3), wildType(r, count, 3)}
			if s.Unify(p[0], p[1]) == api.OK {
				l = append(l, p)
			}
		}
		taken += len(l)
		by := map[int]api.Type{}
		for n := range count {
			x, _ := s.Resolve(meta(n))
			by[n] = x
		}
		anything := map[int]api.Type{}
		for n := range count {
			anything[n] = ground(r, 2)
		}
		for _, p := range l {
			a, b := putIn(p[0], by), putIn(p[1], by)
			if tell(a) != tell(b) || tell(putIn(a, anything)) != tell(putIn(b, anything)) {
				t.Fatalf("%d: %s and %s were made the same, but are %s and %s", seed, brief(p[0]), brief(p[1]), brief(a), brief(b))
			}
		}
		for n := range count {
			for _, m := range s.Open(meta(n)) {
				comes(t, s, meta(m), meta(m))
			}
		}
	}
	if taken < 4000 {
		t.Errorf("%d pairs taken: the test does not try much", taken)
	}
}

// mixed: pairs in another order, some turned round, some twice.
func mixed(r *rand.Rand, l []eq) []eq {
	out := slices.Clone(l)
	for _, p := range l {
		if r.Intn(4) == 0 {
			out = append(out, p)
		}
	}
	r.Shuffle(len(out), func(i, k int) { out[i], out[k] = out[k], out[i] })
	for i := range out {
		if r.Intn(2) == 0 {
			out[i][0], out[i][1] = out[i][1], out[i][0]
		}
	}
	return out
}

// TestP1106: what is known does not hang on the order of the calls, nor on which type stood first, nor on when the metas were made.
func TestP1106(t *testing.T) {
	const count = 6
	for seed := range int64(3000) {
		r := rand.New(rand.NewSource(seed))
		var l []eq
		s := withMetas(count)
		if seed%2 == 0 {
			l = solvable(r, count, putFor(r, count))
			for _, p := range l {
				s.Unify(p[0], p[1])
			}
		}
		for range 8 {
			p := eq{wildType(r, count, 3), wildType(r, count, 3)}
			if s.Unify(p[0], p[1]) == api.OK {
				l = append(l, p)
			}
		}
		want := all(s)
		for range 4 {
			other := withMetas(count)
			for _, p := range mixed(r, l) {
				if e := other.Unify(p[0], p[1]); e != api.OK {
					t.Fatalf("%d: Unify(%s, %s): %v in another order", seed, brief(p[0]), brief(p[1]), e)
				}
			}
			if got := all(other); got != want {
				t.Fatalf("%d: in another order: %s, want %s", seed, got, want)
			}
		}
		atOnce := withMetas(count)
		var a, b []api.Type
		for _, p := range mixed(r, l) {
			a, b = append(a, p[0]), append(b, p[1])
		}
		if e := atOnce.Unify(node(70, 0, a...), node(70, 0, b...)); e != api.OK || all(atOnce) != want {
			t.Fatalf("%d: at once: %v, %s, want %s", seed, e, all(atOnce), want)
		}
	}
}

// TestP1106Nothing: Unify of two types that have one resolved type changes nothing; what can't be the same can't be whichever stands first.
func TestP1106Nothing(t *testing.T) {
	const count = 6
	for seed := range int64(2000) {
		r := rand.New(rand.NewSource(seed))
		s := withMetas(count)
		for _, p := range solvable(r, count, putFor(r, count)) {
			must(t, s, p[0], p[1], api.OK)
		}
		want := all(s)
		for range 8 {
			x := wildType(r, count, 4)
			y, e := s.Resolve(x)
			if e != api.OK {
				continue
			}
			if e, f := s.Unify(x, y), s.Unify(y, x); e != api.OK || f != api.OK || all(s) != want {
				t.Fatalf("%d: Unify of %s and its resolved type: %v, %v; %s, want %s", seed, brief(x), e, f, all(s), want)
			}
			z := wildType(r, count, 4)
			if e, f := s.Clone().Unify(x, z), s.Clone().Unify(z, x); e != f {
				t.Fatalf("%d: Unify(%s, %s): %v, turned round %v", seed, brief(x), brief(z), e, f)
			}
		}
	}
}

// TestRule5: the same calls answer the same, and two stores share nothing.
func TestRule5(t *testing.T) {
	for seed := range int64(200) {
		var told []string
		stores := []*unify.Store{unify.New(), unify.New()}
		for _, s := range stores {
			r := rand.New(rand.NewSource(seed))
			answers := ""
			for range 12 {
				if r.Intn(3) == 0 {
					s.Meta()
				}
				answers += strconv.Itoa(int(s.Unify(wildType(r, s.Count(), 3), wildType(r, s.Count(), 3)))) + " "
			}
			told = append(told, answers+all(s))
		}
		if told[0] != told[1] {
			t.Fatalf("%d: %s and %s", seed, told[0], told[1])
		}
	}
}
