package unify_test

import (
	"fmt"
	"math"
	"slices"
	"testing"

	"wafer/api"
	"wafer/unify"
)

func TestExamples(t *testing.T) {
	s := unify.New()
	a, b := s.Meta(), s.Meta()
	must(t, s, a, b, api.OK)
	comes(t, s, b, a)
	comes(t, s, a, meta(0))
	must(t, s, b, fn(integer(), integer()), api.OK)
	comes(t, s, a, fn(integer(), integer()))
	must(t, s, a, boolean(), api.ErrType)
	comes(t, s, a, fn(integer(), integer()))

	c := s.Meta()
	must(t, s, c, fn(c, integer()), api.ErrType)

	s = withMetas(10)
	for n := 1; n < 9; n++ {
		must(t, s, meta(n), pair(meta(n-1), meta(n-1)), api.OK)
	}
	must(t, s, meta(9), pair(meta(8), meta(8)), api.ErrType)
}

func TestP1101(t *testing.T) {
	s := unify.New()
	if s == nil || s.Count() != 0 {
		t.Fatalf("New: %v", s)
	}
	for n := range 50 {
		if got := s.Meta(); tell(got) != tell(meta(n)) || s.Count() != n+1 {
			t.Fatalf("Meta: %s, Count %d, want %s", brief(got), s.Count(), brief(meta(n)))
		}
		comes(t, s, meta(n), meta(n))
		opens(t, s, meta(n), n)
		if n%3 == 1 {
			must(t, s, meta(n), chosenBy(n, meta(n-1), integer()), api.OK)
		}
	}
	if unify.New().Count() != 0 {
		t.Errorf("two stores share their metas")
	}
}

// chosenBy: one of a list by a number.
func chosenBy(n int, l ...api.Type) api.Type { return l[n%len(l)] }

// unlike: types without metas, any two of which part somewhere.
func unlike() []api.Type {
	return []api.Type{
		integer(), boolean(), unit(), stamp(0), stamp(1), stamp(math.MaxInt), stamp(-1), gen(0), gen(1), gen(-1),
		node(0, 0), node(9, 0), node(-1, 0), node(math.MinInt, 0), node(math.MaxInt, 0),
		node(api.TInt, 1), node(api.TUnit, -1), node(api.TInt, 0, integer()), node(api.TStamp, 0, integer()),
		fn(integer(), integer()), pair(integer(), integer()), fn(integer(), boolean()), fn(boolean(), integer()),
		node(api.TFn, 1, integer(), integer()), node(api.TFn, 0), node(api.TFn, 0, integer()), node(api.TFn, 0, integer(), integer(), integer()),
		node(9, 0, integer()), node(9, 0, boolean()), node(9, 1, integer()),
		fn(fn(integer(), integer()), integer()), fn(integer(), fn(integer(), integer())), fn(pair(integer(), integer()), integer()),
		// Of a store with three metas none of these is one of its own.
		meta(3), meta(4), meta(-1), meta(math.MinInt), meta(math.MaxInt),
		node(api.TMeta, 0, integer()), node(api.TMeta, 1, integer()), node(api.TMeta, 0, boolean()), node(api.TMeta, 0, integer(), integer()), node(api.TMeta, 3, integer()),
		fn(meta(3), integer()), fn(integer(), meta(-1)),
	}
}

// TestP1102Parts: two types without metas go together just if they are the same, by themselves, as parts and through metas.
func TestP1102Parts(t *testing.T) {
	for i, a := range unlike() {
		for k, b := range unlike() {
			want := api.ErrType
			if i == k {
				want = api.OK
			}
			must(t, withMetas(3), a, b, want)
			must(t, withMetas(3), fn(integer(), a), fn(integer(), b), want)
			must(t, withMetas(3), node(40, 7, a, unit(), a), node(40, 7, a, unit(), b), want)

			s := withMetas(3)
			must(t, s, meta(1), a, api.OK)
			comes(t, s, meta(1), a)
			must(t, s, b, meta(1), want)
			must(t, s, meta(2), b, api.OK)
			must(t, s, meta(1), meta(2), want)
			must(t, s, pair(meta(0), meta(1)), pair(meta(1), meta(2)), want)
		}
	}
}

// TestP1102Lists: a list without an element may be nil or empty.
func TestP1102Lists(t *testing.T) {
	s := withMetas(2)
	empty := func(x api.Type) api.Type { return api.Type{Kind: x.Kind, N: x.N, Kids: []api.Type{}} }
	must(t, s, empty(integer()), integer(), api.OK)
	must(t, s, empty(meta(1)), empty(meta(0)), api.OK)
	comes(t, s, meta(1), meta(0))
	must(t, s, empty(meta(1)), empty(stamp(3)), api.OK)
	comes(t, s, empty(meta(0)), stamp(3))
	must(t, s, empty(meta(7)), meta(7), api.OK)
}

func TestP1102Learned(t *testing.T) {
	s := withMetas(6)
	must(t, s, fn(meta(0), pair(meta(1), meta(2))), fn(pair(meta(2), integer()), pair(stamp(4), meta(3))), api.OK)
	comes(t, s, meta(0), pair(meta(2), integer()))
	comes(t, s, meta(1), stamp(4))
	comes(t, s, meta(3), meta(2))
	must(t, s, meta(0), pair(gen(1), meta(4)), api.OK)
	comes(t, s, fn(meta(3), fn(meta(4), meta(5))), fn(gen(1), fn(integer(), meta(5))))
	must(t, s, node(77, -3, meta(5), meta(0)), node(77, -3, meta(0), meta(5)), api.OK)
	comes(t, s, meta(5), pair(gen(1), integer()))
	must(t, s, meta(3), gen(2), api.ErrType)
	must(t, s, meta(0), pair(meta(5), meta(4)), api.ErrType)
}

// TestP1102Itself: no type may have to be a part of itself.
func TestP1102Itself(t *testing.T) {
	type eq = [2]api.Type
	for _, l := range [][]eq{
		{{meta(0), fn(meta(0), integer())}},
		{{meta(0), fn(integer(), meta(0))}},
		{{meta(0), node(9, 9, meta(0))}},
		{{meta(0), node(api.TMeta, 0, meta(0))}},
		{{meta(0), fn(integer(), pair(boolean(), pair(meta(0), unit())))}},
		{{meta(0), fn(meta(1), integer())}, {meta(1), meta(0)}},
		{{meta(0), fn(meta(1), integer())}, {meta(1), pair(unit(), meta(0))}},
		{{meta(0), meta(1)}, {meta(1), fn(meta(0), integer())}},
		{{meta(0), meta(1)}, {meta(2), meta(1)}, {meta(0), fn(integer(), meta(2))}},
		{{meta(0), pair(meta(1), meta(2))}, {meta(1), pair(meta(2), meta(3))}, {meta(3), pair(meta(4), meta(4))}, {meta(4), meta(0)}},
		{{meta(0), pair(meta(1), meta(2))}, {meta(1), pair(meta(2), meta(3))}, {meta(3), pair(meta(4), meta(4))}, {meta(4), pair(integer(), meta(1))}},
		{{pair(meta(0), meta(1)), pair(fn(meta(1), integer()), fn(meta(0), integer()))}},
		{{pair(meta(0), meta(1)), pair(meta(1), fn(meta(0), integer()))}},
		{{fn(meta(0), meta(0)), fn(meta(1), pair(meta(1), meta(1)))}},
		{{meta(0), fn(meta(1), integer())}, {meta(2), fn(meta(0), integer())}, {meta(0), meta(2)}},
		{{meta(0), fn(meta(1), meta(2))}, {meta(2), fn(meta(3), meta(4))}, {meta(0), meta(2)}},
		// What has no other end than at itself parts nowhere.
		{{meta(0), fn(integer(), meta(1))}, {meta(2), fn(integer(), meta(3))}, {meta(1), meta(2)}, {meta(3), meta(0)}},
	} {
		for _, turned := range []bool{false, true} {
			s := withMetas(5)
			for i, p := range l {
				want := api.OK
				if i == len(l)-1 {
					want = api.ErrType
				}
				if turned {
					p[0], p[1] = p[1], p[0]
				}
				must(t, s, p[0], p[1], want)
			}
		}
	}
	s := withMetas(1)
	must(t, s, meta(0), meta(0), api.OK)
	must(t, s, meta(0), node(api.TMeta, 0, integer()), api.OK)
	comes(t, s, meta(0), node(api.TMeta, 0, integer()))
}

// TestP1102NothingChanges: what had an error leaves no trace, however much of both types went together ahead of it.
func TestP1102NothingChanges(t *testing.T) {
	good := node(50, 0, meta(0), meta(2), meta(3), meta(5), meta(7), meta(6))
	other := node(50, 0, meta(1), fn(meta(0), meta(3)), integer(), pair(meta(4), meta(6)), meta(8), meta(1))
	for _, bad := range [][2]api.Type{
		{integer(), boolean()},
		{meta(3), boolean()},
		{meta(2), integer()},
		{meta(0), fn(meta(2), unit())},
		{meta(4), full(999)},
		{meta(7), broad(1001, integer())},
		{meta(40), meta(41)},
		{meta(9), meta(9 + 1)},
	} {
		s := withMetas(10)
		must(t, s, meta(9), integer(), api.OK)
		must(t, s, node(51, 0, good, bad[0]), node(51, 0, other, bad[1]), api.ErrType)
		for n := range 9 {
			comes(t, s, meta(n), meta(n))
			opens(t, s, meta(n), n)
		}
		// What is known now must be what is known of a store that was never asked for more.
		clean := withMetas(10)
		must(t, clean, meta(9), integer(), api.OK)
		for _, p := range [][2]api.Type{{meta(8), pair(meta(5), meta(5))}, {meta(5), broad(499, meta(0))}, {meta(0), stamp(1)}, {meta(2), full(999)}, {meta(6), meta(4)}, {good, node(50, 0, meta(0), meta(2), meta(3), meta(5), meta(7), meta(6))}} {
			must(t, s, p[0], p[1], api.OK)
			must(t, clean, p[0], p[1], api.OK)
		}
		if all(s) != all(clean) {
			t.Fatalf("behind an error: %s, want %s", all(s), all(clean))
		}
	}
}

// TestP1102Strangers: a number that is not the store's is the same as itself alone, and a meta may be known to be it.
func TestP1102Strangers(t *testing.T) {
	for _, n := range []int{3, 4, 99, -1, -2, math.MinInt, math.MaxInt} {
		s := withMetas(3)
		must(t, s, meta(n), meta(n), api.OK)
		must(t, s, meta(n), integer(), api.ErrType)
		must(t, s, fn(unit(), unit()), meta(n), api.ErrType)
		must(t, s, meta(n), meta(50), api.ErrType)
		must(t, s, meta(50), meta(n), api.ErrType)
		comes(t, s, meta(n), meta(n))
		opens(t, s, pair(meta(n), pair(meta(1), meta(n))), 1)

		must(t, s, meta(2), meta(1), api.OK)
		must(t, s, meta(n), meta(2), api.OK)
		comes(t, s, pair(meta(1), meta(2)), pair(meta(n), meta(n)))
		opens(t, s, fn(meta(1), meta(2)))
		must(t, s, meta(1), integer(), api.ErrType)
		must(t, s, meta(1), meta(50), api.ErrType)
		must(t, s, meta(0), fn(meta(2), integer()), api.OK)
		must(t, s, meta(0), meta(1), api.ErrType)
		must(t, s, meta(n), meta(0), api.ErrType)
		must(t, s, meta(n), fn(meta(n), integer()), api.ErrType)
		must(t, s, meta(0), fn(meta(n), integer()), api.OK)
		comes(t, s, meta(0), fn(meta(n), integer()))
		opens(t, s, meta(0))
	}
}

// TestP1101Strangers: a number that stands in what is known before it is the store's is a meta as soon as it is: both types of each call still have one resolved type, the own one is the least, and sizes count.
func TestP1101Strangers(t *testing.T) {
	s := withMetas(2)
	must(t, s, meta(1), meta(3), api.OK)
	must(t, s, meta(0), broad(500, meta(4)), api.OK)
	opens(t, s, pair(meta(0), meta(1)))
	c := s.Clone()
	for n := 2; n < 5; n++ {
		if got := s.Meta(); tell(got) != tell(meta(n)) {
			t.Fatalf("Meta: %s, want %d", brief(got), n)
		}
	}
	comes(t, s, meta(1), meta(1))
	comes(t, s, meta(3), meta(1))
	opens(t, s, pair(meta(0), meta(3)), 1, 4)
	must(t, s, meta(4), fn(integer(), integer()), api.ErrType)
	must(t, s, meta(4), node(9, 9, boolean()), api.OK)
	comes(t, s, meta(0), broad(500, node(9, 9, boolean())))
	must(t, s, meta(1), stamp(8), api.OK)
	comes(t, s, meta(3), stamp(8))

	must(t, c, meta(1), stamp(8), api.ErrType)
	comes(t, c, meta(1), meta(3))
	c.Meta()
	c.Meta()
	must(t, c, meta(3), unit(), api.OK)
	comes(t, c, meta(1), unit())
}

// TestP1103Open: rising, each once, of the resolved type, and only the store's.
func TestP1103Open(t *testing.T) {
	s := withMetas(8)
	opens(t, s, integer())
	opens(t, s, api.Type{})
	opens(t, s, pair(meta(7), pair(meta(2), pair(meta(7), meta(0)))), 0, 2, 7)
	opens(t, s, node(api.TMeta, 5, meta(6), node(-4, 0, meta(1), meta(8), meta(-1), gen(3), stamp(4))), 1, 6)
	must(t, s, meta(5), meta(3), api.OK)
	must(t, s, meta(6), pair(meta(5), meta(1)), api.OK)
	must(t, s, meta(7), integer(), api.OK)
	opens(t, s, meta(5), 3)
	opens(t, s, meta(7))
	opens(t, s, pair(meta(6), meta(6)), 1, 3)
	opens(t, s, fn(meta(6), fn(meta(5), fn(meta(0), meta(7)))), 0, 1, 3)
}

// TestP1102OwnOne: whatever the order in which metas were made the same, and whichever stood first, their own one is the least of them.
func TestP1102OwnOne(t *testing.T) {
	for _, l := range orders([]int{0, 1, 2, 3, 4}) {
		for turns := range 16 {
			// Each but the first is made the same as one that is in already.
			s := withMetas(7)
			must(t, s, meta(6), fn(meta(5), meta(l[0])), api.OK)
			for i := 1; i < len(l); i++ {
				a, b := meta(l[i]), meta(l[(turns*i+i/2)%i])
				if turns>>(i-1)&1 == 1 {
					a, b = b, a
				}
				must(t, s, a, b, api.OK)
				least := meta(slices.Min(l[:i+1]))
				for _, n := range l[:i+1] {
					comes(t, s, meta(n), least)
					opens(t, s, fn(meta(n), meta(5)), least.N, 5)
				}
				for _, n := range l[i+1:] {
					comes(t, s, meta(n), meta(n))
				}
				comes(t, s, meta(6), fn(meta(5), least))
			}
		}
	}
}

// orders: all orders of a list.
func orders(l []int) [][]int {
	if len(l) == 0 {
		return [][]int{nil}
	}
	var out [][]int
	for i, n := range l {
		for _, rest := range orders(slices.Delete(slices.Clone(l), i, i+1)) {
			out = append(out, append([]int{n}, rest...))
		}
	}
	return out
}

// TestP1104Clone: two stores that know the same, and each goes its own way.
func TestP1104Clone(t *testing.T) {
	s := withMetas(6)
	must(t, s, meta(0), fn(meta(1), meta(2)), api.OK)
	must(t, s, meta(4), meta(3), api.OK)
	c := s.Clone()
	d := c.Clone()
	if all(c) != all(s) || all(d) != all(s) {
		t.Fatalf("Clone: %s, want %s", all(c), all(s))
	}
	ahead := all(s)
	must(t, c, meta(1), broad(998, integer()), api.OK)
	must(t, c, meta(2), meta(3), api.OK)
	must(t, c, meta(5), meta(4), api.OK)
	comes(t, c, meta(5), meta(2))
	if all(s) != ahead || all(d) != ahead {
		t.Fatalf("what a clone learned is known: %s, %s, was %s", all(s), all(d), ahead)
	}
	behind := all(c)
	must(t, s, meta(1), unit(), api.OK)
	must(t, s, meta(4), meta(0), api.OK)
	comes(t, s, meta(3), fn(unit(), meta(2)))
	comes(t, d, meta(3), meta(3))
	if all(c) != behind {
		t.Fatalf("a clone has learned what it was not told: %s, was %s", all(c), behind)
	}
	for range 3 {
		if got := c.Meta(); tell(got) != tell(meta(c.Count()-1)) {
			t.Fatalf("Meta of a clone: %s of %d", brief(got), c.Count())
		}
	}
	if got := s.Meta(); tell(got) != tell(meta(6)) || s.Count() != 7 || c.Count() != 9 || d.Count() != 6 {
		t.Fatalf("Meta: %s; Count: %d, %d, %d", brief(got), s.Count(), c.Count(), d.Count())
	}
	must(t, s, meta(6), boolean(), api.OK)
	comes(t, c, meta(6), meta(6))
	must(t, c, meta(6), integer(), api.OK)
	comes(t, s, meta(6), boolean())
	must(t, d, meta(6), integer(), api.ErrType)
}

// TestP1104Room: metas that two stores make behind a Clone don't stand in shared room.
func TestP1104Room(t *testing.T) {
	for count := range 20 {
		s := withMetas(count)
		c := s.Clone()
		must(t, s, s.Meta(), stamp(1), api.OK)
		must(t, c, c.Meta(), stamp(2), api.OK)
		comes(t, s, meta(count), stamp(1))
		comes(t, c, meta(count), stamp(2))
	}
}

func TestP1104Nil(t *testing.T) {
	var s *unify.Store
	if got := s.Meta(); got.Kind != 0 || got.N != 0 || len(got.Kids) != 0 {
		t.Errorf("Meta: %s", brief(got))
	}
	for _, x := range append(unlike(), meta(0), pair(meta(0), meta(1)), broad(2000, integer())) {
		if e := s.Unify(x, x); e != api.ErrNil {
			t.Errorf("Unify(%s, ..): %v", brief(x), e)
		}
		if got, e := s.Resolve(x); tell(got) != tell(api.Type{}) || e != api.ErrNil {
			t.Errorf("Resolve(%s): %s, %v", brief(x), brief(got), e)
		}
		opens(t, s, x)
	}
	if e := s.Unify(integer(), boolean()); e != api.ErrNil {
		t.Errorf("Unify: %v", e)
	}
	if s.Count() != 0 || s.Clone() != nil {
		t.Errorf("Count: %d, Clone: %v", s.Count(), s.Clone())
	}
}

// TestRule4: what is handed in stays as it was and is not kept; what is handed out is new memory.
func TestRule4(t *testing.T) {
	s := withMetas(5)
	given := [][2]api.Type{
		{meta(0), fn(pair(meta(1), integer()), meta(2))},
		{pair(meta(3), meta(3)), pair(fn(meta(2), meta(1)), fn(meta(2), stamp(4)))},
		{fn(meta(4), integer()), fn(node(9, 9, meta(0), meta(7)), boolean())},
		{meta(4), node(9, 9, meta(0), meta(7))},
	}
	for i, p := range given {
		a, b := roomy(p[0]), roomy(p[1])
		ahead := tellRoom(a) + tellRoom(b)
		s.Unify(a, b)
		if tellRoom(a)+tellRoom(b) != ahead {
			t.Errorf("call %d: what is handed in has changed", i)
		}
		known := all(s)
		scribble(a)
		scribble(b)
		if all(s) != known {
			t.Fatalf("call %d: what is handed in is kept: %s, was %s", i, all(s), known)
		}
	}
	known := all(s)
	for _, x := range []api.Type{meta(0), meta(4), pair(meta(4), meta(4)), fn(integer(), pair(unit(), meta(9)))} {
		x = roomy(x)
		ahead := tellRoom(x)
		got, _ := s.Resolve(x)
		again, _ := s.Resolve(x)
		want := tell(again)
		scribble(got)
		if tell(again) != want || tellRoom(x) != ahead || all(s) != known {
			t.Errorf("Resolve(%s): what is handed out is not new memory", brief(x))
		}
		if len(again.Kids) == 2 && len(again.Kids[0].Kids) > 0 {
			want := tell(again.Kids[1])
			scribble(again.Kids[0])
			if tell(again.Kids[1]) != want {
				t.Errorf("Resolve(%s): two lists of one answer share memory", brief(x))
			}
		}
		open := s.Open(x)
		other := s.Open(x)
		wantOpen := fmt.Sprint(other)
		for i := range open[:cap(open)] {
			open[:cap(open)][i] = -77
		}
		if fmt.Sprint(other) != wantOpen || fmt.Sprint(s.Open(x)) != wantOpen || tellRoom(x) != ahead || all(s) != known {
			t.Errorf("Open(%s): what is handed out is not new memory", brief(x))
		}
	}
	m := s.Meta()
	m.Kids = append(m.Kids, integer())
	comes(t, s, meta(5), meta(5))
}
