package types_test

import (
	"math"
	"math/rand"
	"slices"
	"testing"

	"wafer/api"
	"wafer/types"
)

// sorts: the kinds whose numbers are told, and what tells them.
func sorts() map[int]func(api.Type) []int {
	return map[int]func(api.Type) []int{api.TStamp: types.Stamps, api.TMeta: types.Metas, api.TGen: types.Gens}
}

// line: the nodes of a type in one list, each ahead of its Kids.
func line(x api.Type) []api.Type {
	l := []api.Type{x}
	for _, kid := range x.Kids {
		l = append(l, line(kid)...)
	}
	return l
}

// firsts: the numbers of one kind in a list of nodes, each at its first place.
func firsts(l []api.Type, kind int) []int {
	var out []int
	for _, x := range l {
		if x.Kind == kind && !slices.Contains(out, x.N) {
			out = append(out, x.N)
		}
	}
	return out
}

func TestF82Examples(t *testing.T) {
	if got := types.Stamps(fn(stamp(5), pair(stamp(2), stamp(5)))); !slices.Equal(got, []int{5, 2}) {
		t.Errorf("Stamps: %v", got)
	}
}

func TestF82Numbers(t *testing.T) {
	for kind, tell := range sorts() {
		at := func(n int) api.Type { return node(kind, n) }
		for _, c := range []struct {
			x    api.Type
			want []int
		}{
			{integer(), nil}, {api.Type{}, nil}, {fn(boolean(), unit()), nil},
			{at(0), []int{0}}, {at(math.MaxInt), []int{math.MaxInt}}, {at(-1), []int{-1}}, {at(math.MinInt), []int{math.MinInt}},
			{fn(at(1), at(1)), []int{1}}, {fn(at(1), at(2)), []int{1, 2}}, {fn(at(2), at(1)), []int{2, 1}},
			{fn(fn(at(3), at(1)), fn(at(3), at(2))), []int{3, 1, 2}},
			{pair(at(0), pair(at(9), pair(at(0), at(4)))), []int{0, 9, 4}},
			{node(kind, 7, at(5), at(7), at(6)), []int{7, 5, 6}},
			{node(api.TInt, 3, at(8), node(0, 0, at(2)), node(api.TFn, 8, at(1))), []int{8, 2, 1}},
		} {
			if got := tell(c.x); !slices.Equal(got, c.want) {
				t.Errorf("kind %d: of %s: %v, want %v", kind, brief(types.Text(c.x)), got, c.want)
			}
		}
	}
}

// TestF82EachKindByItself: numbers of the other kinds are not told.
func TestF82EachKindByItself(t *testing.T) {
	x := fn(pair(stamp(1), meta(2)), pair(gen(3), fn(gen(4), pair(meta(5), stamp(6)))))
	for kind, want := range map[int][]int{api.TStamp: {1, 6}, api.TMeta: {2, 5}, api.TGen: {3, 4}} {
		if got := sorts()[kind](x); !slices.Equal(got, want) {
			t.Errorf("kind %d: %v, want %v", kind, got, want)
		}
	}
	one := fn(stamp(1), pair(meta(1), gen(1)))
	for kind, tell := range sorts() {
		if got := tell(one); !slices.Equal(got, []int{1}) {
			t.Errorf("kind %d: %v", kind, got)
		}
	}
}

func TestF82ByChance(t *testing.T) {
	r := rand.New(rand.NewSource(82))
	for range 3000 {
		x := wild(r, 7)
		l := line(x)
		for kind, tell := range sorts() {
			if got := tell(x); !slices.Equal(got, firsts(l, kind)) {
				t.Fatalf("kind %d: %v, want %v", kind, got, firsts(l, kind))
			}
		}
		closed := len(firsts(l, api.TMeta)) == 0 && len(firsts(l, api.TGen)) == 0
		if types.Closed(x) != closed {
			t.Fatalf("Closed of %s: %v", brief(tell(x)), types.Closed(x))
		}
	}
}

// TestF82Many: types of far more than MaxType nodes, with as many numbers.
func TestF82Many(t *testing.T) {
	const many = 200000
	for kind, tell := range sorts() {
		l := make([]api.Type, 2*many)
		for i := range l {
			l[i] = node(kind, (many-i)*7)
			if i >= many {
				l[i] = l[i-many]
			}
		}
		got := tell(node(api.TPair, 0, l...))
		if len(got) != many || got[0] != many*7 || got[many-1] != 7 {
			t.Errorf("kind %d: %d numbers, want %d", kind, len(got), many)
		}
		if got := tell(doubled(20, node(kind, 4))); !slices.Equal(got, []int{4}) {
			t.Errorf("kind %d: %v of one leaf that stands often", kind, got)
		}
		for side := range 3 {
			if got := tell(chain(100001, side, node(kind, 9))); !slices.Equal(got, []int{9}) {
				t.Errorf("kind %d: %v of a deep type", kind, got)
			}
		}
	}
}

// TestF82NewMemory: what the caller writes into what was told is seen nowhere.
func TestF82NewMemory(t *testing.T) {
	for kind, tell := range sorts() {
		x := fn(node(kind, 3), pair(node(kind, 1), node(kind, 2)))
		a := tell(x)
		b := tell(x)
		a = a[:cap(a)]
		for i := range a {
			a[i] = 99
		}
		if !slices.Equal(b, []int{3, 1, 2}) || !slices.Equal(tell(x), b) {
			t.Errorf("kind %d: %v, %v", kind, b, tell(x))
		}
	}
}

func TestF82Closed(t *testing.T) {
	for _, x := range []api.Type{integer(), boolean(), unit(), stamp(0), stamp(-1), fn(stamp(1), pair(integer(), stamp(2))), {}, node(9, 0), node(api.TInt, 0, stamp(1))} {
		if !types.Closed(x) {
			t.Errorf("%s is not closed", tell(x))
		}
	}
	for _, n := range edges() {
		for _, kind := range []int{api.TMeta, api.TGen} {
			leaf := node(kind, n)
			for _, x := range []api.Type{leaf, fn(leaf, unit()), fn(unit(), leaf), pair(integer(), fn(leaf, integer())), node(api.TInt, 0, leaf), node(0, 0, unit(), unit(), leaf), node(api.TStamp, 1, leaf), node(kind, n, unit())} {
				if types.Closed(x) {
					t.Errorf("%s is closed", tell(x))
				}
			}
		}
	}
	for side := range 3 {
		if !types.Closed(chain(100001, side, stamp(1))) || types.Closed(chain(100001, side, meta(1))) || types.Closed(chain(100001, side, gen(1))) {
			t.Errorf("side %d: the end of a deep type does not count", side)
		}
	}
}
