package unify_test

import (
	"slices"
	"testing"

	"wafer/api"
	"wafer/unify"
)

// TestP1102MaxType: a meta that comes to just MaxType nodes, and to one more.
func TestP1102MaxType(t *testing.T) {
	for _, made := range []func(nodes int) api.Type{
		func(nodes int) api.Type { return broad(nodes, integer()) },
		func(nodes int) api.Type { return deep(nodes, boolean()) },
		func(nodes int) api.Type { return node(api.TPair, 0, full(501), broad(nodes-502, gen(0))) },
		func(nodes int) api.Type { return broad(nodes, meta(1)) },
		func(nodes int) api.Type { return deep(nodes, meta(77)) },
	} {
		for _, turned := range []bool{false, true} {
			for nodes, want := range map[int]api.Errno{api.MaxType - 1: api.OK, api.MaxType: api.OK, api.MaxType + 1: api.ErrType, api.MaxType + 2: api.ErrType, 3 * api.MaxType: api.ErrType} {
				s := withMetas(2)
				a, b := meta(0), made(nodes)
				if turned {
					a, b = b, a
				}
				must(t, s, a, b, want)
				if want == api.OK {
					comes(t, s, meta(0), made(nodes))
				}
			}
		}
	}
}

// TestP1102MaxTypeOthers: a meta that stands in neither type, but would come to more than MaxType nodes.
func TestP1102MaxTypeOthers(t *testing.T) {
	for _, c := range []struct {
		known [][2]api.Type // ahead of the call that makes meta 0 greater
		room  int           // how many nodes meta 0 may have
	}{
		{nil, 1000},
		{[][2]api.Type{{meta(1), node(9, 0, meta(0))}}, 999},
		{[][2]api.Type{{meta(1), fn(meta(0), integer())}}, 998},
		{[][2]api.Type{{meta(1), pair(meta(0), meta(0))}}, 499},
		{[][2]api.Type{{meta(1), pair(meta(2), meta(0))}, {meta(2), meta(0)}}, 499},
		{[][2]api.Type{{meta(1), pair(meta(2), meta(3))}, {meta(4), meta(1)}, {meta(3), meta(2)}, {meta(0), meta(3)}}, 499},
		{[][2]api.Type{{meta(1), node(9, 0, meta(0))}, {meta(2), pair(meta(1), meta(1))}}, 498},
		{[][2]api.Type{{meta(2), pair(meta(1), meta(1))}, {meta(1), node(9, 0, meta(0))}}, 498},
		{[][2]api.Type{{meta(2), pair(meta(1), meta(0))}, {meta(1), node(9, 0, meta(0))}, {meta(3), pair(meta(2), meta(2))}}, 248},
		{[][2]api.Type{{meta(3), broad(950, integer())}, {meta(2), pair(meta(3), meta(0))}, {meta(4), fn(meta(1), meta(1))}}, 49},
		{[][2]api.Type{{meta(4), node(9, 0, meta(2))}, {meta(2), broad(101, meta(0))}, {meta(3), pair(meta(0), meta(0))}}, 9},
		{[][2]api.Type{{meta(2), broad(500, meta(1))}, {meta(1), meta(0)}}, 2},
		{[][2]api.Type{{meta(2), broad(501, meta(0))}, {meta(3), meta(2)}}, 1},
		{[][2]api.Type{{meta(2), broad(1000, meta(0))}}, 1},
		{[][2]api.Type{{meta(2), broad(300, meta(0))}, {meta(3), broad(300, meta(1))}, {meta(2), meta(3)}, {meta(4), node(9, 0, meta(3), meta(1))}}, 3},
		// A TMeta with Kids is not the meta of its number, but its Kids count.
		{[][2]api.Type{{meta(1), node(api.TMeta, 0, meta(2), integer())}}, 1000},
		{[][2]api.Type{{meta(1), node(api.TMeta, 2, meta(0), integer())}}, 998},
	} {
		for _, nodes := range []int{c.room, c.room + 1} {
			for _, how := range []string{"by a type", "turned", "by a meta", "as parts"} {
				s := withMetas(6)
				for _, p := range c.known {
					must(t, s, p[0], p[1], api.OK)
				}
				x := broad(max(nodes, 2), stamp(1))
				if nodes == 1 {
					x = stamp(1)
				}
				a, b := meta(0), x
				switch how {
				case "turned":
					a, b = b, a
				case "by a meta":
					must(t, s, meta(5), x, chosenError(nodes > api.MaxType))
					if nodes > api.MaxType {
						continue
					}
					b = meta(5)
				case "as parts":
					a, b = node(30, 0, meta(5), meta(0)), node(30, 0, integer(), x)
				}
				must(t, s, a, b, chosenError(nodes > c.room))
			}
		}
	}
}

func chosenError(wrong bool) api.Errno {
	if wrong {
		return api.ErrType
	}
	return api.OK
}

// TestP1103Sizes: Resolve of a type of just MaxType nodes, and of one more, that has metas which fit; Open of both.
func TestP1103Sizes(t *testing.T) {
	s := withMetas(6)
	must(t, s, meta(0), broad(499, meta(3)), api.OK)
	must(t, s, meta(1), broad(500, meta(2)), api.OK)
	must(t, s, meta(5), meta(1), api.OK)
	comes(t, s, pair(meta(0), meta(1)), pair(broad(499, meta(3)), broad(500, meta(2))))
	comes(t, s, node(9, 9, meta(0), meta(4), meta(0)), node(9, 9, broad(499, meta(3)), meta(4), broad(499, meta(3))))
	opens(t, s, pair(meta(0), meta(1)), 2, 3)
	for _, x := range []api.Type{
		pair(meta(1), meta(1)), node(9, 9, pair(meta(0), meta(5))), node(9, 9, meta(0), meta(2), meta(1)), node(9, 9, meta(0), meta(0), meta(4), meta(4)),
		broad(1001, meta(4)), deep(1001, meta(5)), broad(50000, meta(1)), deep(60000, pair(meta(4), meta(0))),
		pair(broad(2000, integer()), meta(4)), pair(meta(4), broad(2000, integer())),
	} {
		if got, e := s.Resolve(x); e != api.ErrBig || tell(got) != tell(api.Type{}) {
			t.Errorf("Resolve(%s): %s, %v, want ErrBig", brief(x), brief(got), e)
		}
	}
	opens(t, s, pair(meta(1), meta(1)), 2)
	opens(t, s, node(9, 9, meta(0), meta(5), meta(4), meta(1)), 2, 3, 4)
	opens(t, s, broad(50000, meta(1)), 2)
	opens(t, s, deep(60000, pair(meta(4), meta(0))), 3, 4)
	opens(t, s, pair(broad(2000, integer()), meta(4)), 4)
	comes(t, s, broad(1000, meta(4)), broad(1000, meta(4)))
	comes(t, s, deep(501, meta(5)), deep(501, broad(500, meta(2))))
	if _, e := s.Resolve(deep(502, meta(5))); e != api.ErrBig {
		t.Errorf("Resolve of 1001 nodes: %v", e)
	}
}

// TestP1102GreatTypes: types that are greater than MaxType are the same or not, as others are; only what is known of metas must fit.
func TestP1102GreatTypes(t *testing.T) {
	s := withMetas(4)
	must(t, s, broad(5000, integer()), broad(5000, integer()), api.OK)
	must(t, s, broad(5000, integer()), broad(5001, integer()), api.ErrType)
	must(t, s, deep(60000, integer()), deep(60000, boolean()), api.ErrType)
	must(t, s, deep(60000, meta(1)), deep(60000, meta(0)), api.OK)
	comes(t, s, meta(1), meta(0))
	must(t, s, pair(meta(2), broad(5000, meta(1))), pair(full(999), broad(5000, stamp(3))), api.OK)
	comes(t, s, meta(0), stamp(3))
	must(t, s, deep(60000, meta(3)), deep(50000, integer()), api.ErrType)
	must(t, s, deep(50000, meta(3)), deep(50999, integer()), api.OK)
	comes(t, s, meta(3), deep(1000, integer()))
	must(t, s, broad(100000, meta(2)), broad(100000, meta(2)), api.OK)
}

// TestManyMetas: stores with many metas answer soon, also where all of them hang together.
func TestManyMetas(t *testing.T) {
	const many = 60000
	ok := func(s *unify.Store, a, b api.Type, want api.Errno) {
		t.Helper()
		if e := s.Unify(a, b); e != want {
			t.Fatalf("Unify(%s, %s): %v, want %v", brief(a), brief(b), e, want)
		}
	}
	// A chain that is laid from its far end, so that each link meets a class by its greatest number.
	s := withMetas(many)
	for n := many - 1; n > 0; n-- {
		ok(s, meta(n), meta(n-1), api.OK)
	}
	for n := range many {
		comes(t, s, meta(n), meta(0))
	}
	// Each is a pair of the first one, which grows step by step.
	s = withMetas(many)
	for n := 100; n < many; n++ {
		ok(s, meta(n), pair(meta(0), meta(1)), api.OK)
	}
	for n := range 20 {
		ok(s, meta(n), node(9, 0, meta(n+1)), api.OK)
	}
	comes(t, s, meta(many-1), pair(deep0(20), deep0(19)))
	// The same pair, time and again, and others that are refused at the last one.
	for n := 100; n < many; n++ {
		ok(s, meta(n), meta(100+n*7%(many-100)), api.OK)
	}
	for range 100 {
		ok(s, meta(20), broad(490, integer()), api.ErrType)
	}
	for n := 100; n < many; n++ {
		ok(s, meta(n), pair(meta(n), meta(1)), api.ErrType)
	}
	c := s.Clone()
	ok(c, meta(20), broad(480, integer()), api.OK)
	ok(s, meta(20), unit(), api.OK)
	opens(t, s, broad(many, meta(many-1)))
}

// deep0: the meta 20 in so many nodes of another kind.
func deep0(nodes int) api.Type {
	x := meta(20)
	for range nodes {
		x = node(9, 0, x)
	}
	return x
}

// TestSharedParts: types that are the same through many metas, each of which stands in the next one more than once, answer soon.
func TestSharedParts(t *testing.T) {
	s := withMetas(40)
	for n := 1; n < 9; n++ {
		must(t, s, meta(n), pair(meta(n-1), meta(n-1)), api.OK)
		must(t, s, meta(n+20), pair(meta(n+19), meta(n+19)), api.OK)
	}
	for range 200 {
		must(t, s.Clone(), meta(8), meta(28), api.OK)
		must(t, s.Clone(), broad(2000, meta(28)), broad(2000, meta(8)), api.OK)
		must(t, s.Clone(), pair(broad(2000, meta(28)), meta(0)), pair(broad(2000, meta(8)), meta(21)), api.ErrType)
	}
	must(t, s, meta(8), meta(28), api.OK)
	for n := range 9 {
		x, _ := s.Resolve(meta(n + 20))
		comes(t, s, meta(n), x)
	}
	if got := s.Open(pair(meta(8), meta(28))); !slices.Equal(got, []int{0}) {
		t.Errorf("Open: %v", got)
	}
}
