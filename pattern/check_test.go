package pattern_test

import (
	"fmt"
	"strconv"
	"strings"
	"testing"

	"wafer/api"
	"wafer/env"
	"wafer/pattern"
	"wafer/tree"
	"wafer/types"
	"wafer/unify"
)

func wantChecked(t *testing.T, p api.Pat, e env.Env, want string) {
	t.Helper()
	if got := checked(p, e, unify.New()); got != want {
		t.Errorf("Check(%s): %s, want %s", brief(tell(p)), got, want)
	}
}

func wantCode(t *testing.T, p api.Pat, e env.Env, want api.Errno) {
	t.Helper()
	wantChecked(t, p, e, want.Error())
}

// TestP1501Examples: the chapter's examples.
func TestP1501Examples(t *testing.T) {
	wantChecked(t, two(name("x"), number(1)), env.Env{}, "?0 * int; x: ?0")
	wantCode(t, two(name("x"), name("x")), env.Env{}, api.ErrTwice)
	e := env.Env{Cons: []env.Con{{Name: "Cons", T: stamp(3), All: []api.Ctor{ctor("Cons")}}}}
	wantCode(t, con("Cons", name("x")), e, api.ErrType)
}

// TestP1501Kinds: the type of each kind, and what it binds, from the left.
func TestP1501Kinds(t *testing.T) {
	e := place(nil)
	x, y, z := name("x"), name("y"), name("z")
	for _, c := range []struct {
		p    api.Pat
		want string
	}{
		{anything(), "?0"},
		{x, "?0; x: ?0"},
		{number(0), "int"},
		{number(1<<63 - 1), "int"},
		{truth(), "bool"},
		{untruth(), "bool"},
		{nothing(), "unit"},
		{two(anything(), anything()), "?0 * ?1"},
		{two(truth(), nothing()), "bool * unit"},
		{two(x, two(y, z)), "?0 * (?1 * ?2); x: ?0; y: ?1; z: ?2"},
		{two(two(z, y), x), "?0 * ?1 * ?2; z: ?0; y: ?1; x: ?2"},
		{two(two(anything(), z), two(number(7), x)), "?0 * ?1 * (int * ?2); z: ?1; x: ?2"},
		{con("Nil"), "#1"},
		{con("Dot"), "#9"},
		{con("Cons", x), "#1; x: int * #1"},
		{con("Cons", anything()), "#1"},
		{con("Cons", two(x, y)), "#1; x: int; y: #1"},
		{con("Cons", two(number(1), con("Cons", two(y, con("Nil"))))), "#1; y: int"},
		{con("Leaf", truth()), "#2"},
		{con("Leaf", x), "#2; x: bool"},
		{con("Mark", con("Cons", two(z, y))), "#2; z: int; y: #1"},
		{con("Node", two(con("Node", two(x, y)), z)), "#2; x: #2; y: #2; z: #2"},
		{con("Only", two(nothing(), x)), "#3; x: int"},
		{con("Only", two(y, x)), "#3; y: unit; x: int"},
		{two(x, con("Cons", two(y, anything()))), "?0 * #1; x: ?0; y: int"},
		{two(con("Cons", x), two(anything(), y)), "#1 * (?0 * ?1); x: int * #1; y: ?1"},
		// By paths of several names.
		{con("M.Red"), "#4"},
		{con("M.Blue"), "#4"},
		{con("M.End"), "#5"},
		{con("M.Cons", x), "#5; x: bool"},
		{con("M.Cons", untruth()), "#5"},
		{con("M.N.None"), "#6"},
		{con("M.N.Keep", x), "#6; x: int -> #1"},
		{con("M.N.Wrap", two(con("M.Red"), two(x, con("Nil")))), "#6; x: int"},
		{con("M.N.Cons", nothing()), "#7"},
		{con("M.N.End", two(con("M.N.End", x), y)), "#7; x: #7 * #6; y: #6"},
		{con("M.N.Two", two(con("Mark", x), y)), "#7; x: #1; y: bool"},
		{two(con("Nil"), two(con("M.End"), con("M.N.Cons", x))), "#1 * (#5 * #7); x: unit"},
		// This one stands outside, too, ahead of nothing else of its name.
		{con("Red"), "#71"},
	} {
		wantChecked(t, c.p, e, c.want)
		if plain := plainCheck(c.p, e); plain != c.want {
			t.Errorf("%s: %s by the chapter's words, want %s", brief(tell(c.p)), plain, c.want)
		}
	}
}

// TestP1501NoType: what has no typing.
func TestP1501NoType(t *testing.T) {
	e := place(nil)
	x, y := name("x"), name("y")
	for _, p := range []api.Pat{
		// With Args, without; without Args, with a pattern.
		con("Cons"), con("Leaf"), con("Only"), con("M.Cons"), con("M.N.Wrap"), con("M.N.Keep"),
		con("Nil", x), con("Nil", anything()), con("Nil", nothing()), con("Dot", nothing()), con("M.Red", x), con("M.N.None", con("M.N.None")),
		two(x, con("Cons")), con("Cons", two(x, con("Cons"))), con("Cons", two(x, con("Nil", y))), con("Mark", con("Nil", two(x, y))),
		// Of another type than that of its Args.
		con("Cons", number(1)), con("Cons", truth()), con("Cons", nothing()), con("Cons", con("Nil")), con("Cons", con("Cons", x)),
		con("Cons", two(truth(), x)), con("Cons", two(nothing(), x)), con("Cons", two(two(x, y), anything())), con("Cons", two(con("Nil"), x)),
		con("Cons", two(x, number(1))), con("Cons", two(x, con("Leaf", y))), con("Cons", two(x, con("M.Cons", y))), con("Cons", two(x, con("Red"))), con("Cons", two(x, two(y, anything()))),
		con("Leaf", number(1)), con("Leaf", two(x, y)), con("Leaf", con("Stop")),
		con("Node", con("Stop")), con("Node", two(con("Stop"), con("Nil"))), con("Node", two(con("Nil"), con("Stop"))),
		con("Only", nothing()), con("Only", two(number(1), nothing())), con("Only", two(nothing(), nothing())), con("Only", two(untruth(), x)),
		con("M.Cons", nothing()), con("M.Cons", two(x, y)), con("M.N.Cons", truth()), con("M.N.Wrap", two(con("Red"), x)), con("M.N.Wrap", two(con("M.End"), x)),
		con("M.N.Keep", number(1)), con("M.N.Keep", two(x, y)), con("M.N.Keep", con("M.N.None")),
		// Far inside, and at either side.
		two(con("Cons", two(truth(), x)), y), two(y, con("Cons", two(truth(), x))),
		con("Mark", con("Cons", two(number(1), con("Cons", two(number(2), con("Cons", two(x, number(3)))))))),
	} {
		wantCode(t, p, e, api.ErrType)
		if plain := plainCheck(p, e); plain != api.ErrType.Error() {
			t.Errorf("%s: %s by the chapter's words", brief(tell(p)), plain)
		}
	}
}

// TestP1501Unbound: constructors that env.Con does not know.
func TestP1501Unbound(t *testing.T) {
	e := place(nil)
	for _, path := range strings.Fields("Nope M.Nope M.Nil M.N.Nope M.N.Red Q.Red N.None M.M.Red M.N.N.None E.Nil M.Red.Blue Val M N Dot.Dot A.B.C.D.E.F.G.H") {
		for _, p := range []api.Pat{con(path), con(path, name("x")), two(con(path), name("x")), two(name("x"), con(path, number(1))), con("Cons", two(number(1), con(path))), con(path, con("Nil"))} {
			wantCode(t, p, e, api.ErrUnbound)
		}
	}
	for _, path := range strings.Fields("Nil Cons M.Red") {
		wantCode(t, con(path), env.Env{}, api.ErrUnbound)
	}
}

// TestP1501Twice: names that are bound twice, wherever they stand.
func TestP1501Twice(t *testing.T) {
	e := place(nil)
	x, y := name("x"), name("y")
	for _, p := range []api.Pat{
		two(x, x), two(two(x, y), x), two(x, two(y, x)), two(two(y, x), two(x, anything())), con("Cons", two(x, x)), two(x, con("Cons", x)),
		two(con("Mark", x), con("Leaf", x)), side(x, y, y), side(x, y, x, y), con("Node", two(con("Leaf", x), con("Mark", con("Cons", two(y, x))))),
	} {
		wantCode(t, p, e, api.ErrTwice)
	}
	wantChecked(t, two(x, two(name("x1"), name("xx"))), e, "?0 * (?1 * ?2); x: ?0; x1: ?1; xx: ?2")
}

// deepPat: a pattern in pairs, so deep.
func deepPat(depth int, p api.Pat) api.Pat {
	for range depth - 1 {
		p = two(p, anything())
	}
	return p
}

// TestP1501Order: of several errors the one that the chapter names first, wherever they stand.
func TestP1501Order(t *testing.T) {
	e := place(nil)
	wrongs := []struct {
		rank int
		code api.Errno
		p    api.Pat
	}{
		{1, api.ErrDeep, deepPat(101, name("d"))},
		{2, api.ErrArg, pat(0)},
		{2, api.ErrArg, pat(9)},
		{2, api.ErrArg, number(-1)},
		{2, api.ErrArg, pat(api.PPair, anything())},
		{2, api.ErrArg, con("Cons", anything(), anything())},
		{2, api.ErrArg, api.Pat{Kind: api.PCon}},
		{2, api.ErrName, name("X")},
		{2, api.ErrName, name("$0")},
		{2, api.ErrName, con("cons")},
		{2, api.ErrBig, name(strings.Repeat("a", 33))},
		{2, api.ErrBig, con("A.B.C.D.E.F.G.H.I")},
		{3, api.ErrTwice, two(name("a"), name("a"))},
		{4, api.ErrUnbound, con("Nope", anything())},
		{4, api.ErrUnbound, con("M.Nope")},
		{5, api.ErrType, con("Nil", anything())},
		{5, api.ErrType, con("Cons", two(truth(), anything()))},
		{5, api.ErrType, con("Cons")},
	}
	for _, a := range wrongs {
		if a.rank <= 2 && tree.RightPat(a.p) != a.code {
			t.Errorf("%s: %v of tree.RightPat, want %v", brief(tell(a.p)), tree.RightPat(a.p), a.code)
		}
		wantCode(t, a.p, e, a.code)
		wantCode(t, two(number(1), a.p), e, a.code)
		for _, b := range wrongs {
			want := a.code
			switch {
			case a.rank == b.rank && a.code != b.code:
				continue
			case b.rank < a.rank:
				want = b.code
			}
			wantCode(t, two(a.p, b.p), e, want)
			wantCode(t, two(name("v"), two(b.p, two(name("w"), a.p))), e, want)
			wantCode(t, con("Node", two(a.p, b.p)), e, want)
		}
	}
	// A name that is bound twice, once in what is not there; the type of the whole, and what is not there.
	wantCode(t, con("Nope", two(name("x"), name("x"))), e, api.ErrTwice)
	wantCode(t, two(broad(600, func(int) api.Pat { return anything() }), con("Nope")), e, api.ErrUnbound)
	wantCode(t, two(broad(600, func(int) api.Pat { return anything() }), two(name("x"), name("x"))), e, api.ErrTwice)
}

// TestP1501Nil: ErrNil of a nil store, whatever the pattern is.
func TestP1501Nil(t *testing.T) {
	for _, p := range []api.Pat{anything(), con("Nil"), two(name("x"), number(1)), {}, two(name("x"), name("x")), con("Nope"), con("Nil", name("x")), number(-1)} {
		for _, e := range []env.Env{{}, place(nil)} {
			wantSame(t, tell(p), checked(p, e, nil), api.ErrNil.Error())
		}
	}
}

func wantSame(t *testing.T, what, got, want string) {
	t.Helper()
	if got != want {
		t.Errorf("%s: %s, want %s", brief(what), brief(got), brief(want))
	}
}

// TestP1501Size: types at the greatest size, and above. (Types of pairs and functions have odd numbers of nodes.)
func TestP1501Size(t *testing.T) {
	e := env.Env{Cons: []env.Con{
		{Name: "Small", T: stamp(1), Args: []api.Type{wide(500, boolean())}, All: []api.Ctor{ctor("Small", wide(500, boolean()))}},
		{Name: "Great", T: wide(500, unit()), All: []api.Ctor{ctor("Great")}},
		{Name: "Less", T: wide(499, unit()), All: []api.Ctor{ctor("Less")}},
	}}
	names := func(i int) api.Pat { return name("x" + strconv.Itoa(i)) }
	numbers := func(i int) api.Pat { return number(int64(i)) }
	truths := func(i int) api.Pat { return truth() }
	fits := func(p api.Pat, nodes, binds int) {
		t.Helper()
		s := unify.New()
		x, l, err := pattern.Check(p, e, s)
		if err != api.OK || types.Size(x) != nodes || len(l) != binds {
			t.Errorf("%d nodes, %d binds, %v, want %d, %d", types.Size(x), len(l), err, nodes, binds)
		}
	}
	fits(broad(500, names), 999, 500)
	fits(broad(500, numbers), 999, 0)
	fits(con("Great"), 999, 0)
	fits(two(con("Less"), name("x")), 999, 1)
	fits(two(name("x"), con("Less")), 999, 1)
	fits(con("Small", name("x")), 1, 1)
	fits(con("Small", broad(500, names)), 1, 500)
	fits(con("Small", broad(500, truths)), 1, 0)
	fits(broad(500, func(i int) api.Pat { return con("Small", name("x"+strconv.Itoa(i))) }), 999, 500)
	for _, p := range []api.Pat{
		broad(501, names), broad(501, numbers), broad(501, func(int) api.Pat { return anything() }), two(con("Great"), nothing()), two(anything(), con("Great")),
		two(con("Less"), con("Less")), two(con("Less"), two(nothing(), nothing())), con("Small", broad(501, names)), con("Small", broad(501, truths)), con("Small", broad(499, truths)),
		con("Small", con("Great")), two(two(con("Small", name("x")), con("Great")), nothing()),
	} {
		wantCode(t, p, e, api.ErrType)
	}
	s := unify.New()
	_, l, _ := pattern.Check(con("Small", name("x")), e, s)
	x, _ := s.Resolve(l[0].T)
	wantSame(t, "a name's type", types.Text(x), types.Text(wide(500, boolean())))
}

// TestP1501Metas: each `_` and each name has a meta of its own, which is new, and what was known stays.
func TestP1501Metas(t *testing.T) {
	s := unify.New()
	for range 5 {
		s.Meta()
	}
	s.Unify(meta(0), pair(meta(1), integer()))
	s.Unify(meta(3), meta(4))
	ahead := told(s)[1:]
	x, l, err := pattern.Check(side(name("a"), anything(), name("b"), con("Cons", two(name("c"), anything())), anything()), place(nil), s)
	if err != api.OK {
		t.Fatal(err)
	}
	r, _ := s.Resolve(x)
	seen := map[int]bool{}
	for _, n := range types.Metas(r) {
		if n < 5 || n >= s.Count() || seen[n] {
			t.Errorf("?%d is not new", n)
		}
		seen[n] = true
	}
	if len(seen) != 4 {
		t.Errorf("%d metas in %s", len(seen), types.Text(r))
	}
	wantSame(t, "binds", fmt.Sprint(l[0].Name, l[1].Name, l[2].Name, len(l)), "abc3")
	for n := range 5 {
		y, err := s.Resolve(meta(n))
		if text := fmt.Sprint(" ", types.Text(y), " ", int(err), s.Open(meta(n))); !strings.Contains(ahead, text) {
			t.Errorf("?%d is%s by now; ahead: %s", n, text, ahead)
		}
	}
	// What is open of a pattern's type can be found out later, and the names' types with it.
	if s.Unify(x, pair(boolean(), pair(unit(), pair(fn(unit(), unit()), pair(stamp(1), integer()))))) != api.OK {
		t.Fatal("the type of the pattern can't be the value's")
	}
	a, _ := s.Resolve(l[0].T)
	b, _ := s.Resolve(l[1].T)
	c, _ := s.Resolve(l[2].T)
	wantSame(t, "names", types.Text(a)+", "+types.Text(b)+", "+types.Text(c), "bool, unit -> unit, int")
}

// stores: stores in several states.
func stores() []*unify.Store {
	few := unify.New()
	for range 6 {
		few.Meta()
	}
	known := few.Clone()
	known.Unify(meta(0), fn(meta(1), meta(2)))
	known.Unify(meta(2), pair(meta(3), integer()))
	known.Unify(meta(4), meta(5))
	great := few.Clone()
	great.Unify(meta(0), wide(400, meta(1)))
	great.Unify(meta(2), meta(1))
	// These know of numbers to which Meta will come.
	ahead := few.Clone()
	ahead.Unify(meta(0), pair(meta(6), wide(499, meta(1))))
	ahead.Unify(meta(2), fn(meta(7), meta(8)))
	same := few.Clone()
	same.Unify(meta(1), meta(6))
	same.Unify(meta(2), wide(500, meta(1)))
	return []*unify.Store{unify.New(), few, known, great, ahead, same}
}

// TestP1501AsItWas: beside an error the store is as it was, also where metas were made and known on the way.
func TestP1501AsItWas(t *testing.T) {
	e := place(nil)
	x, y, z := name("x"), name("y"), name("z")
	known := two(x, con("Cons", two(y, anything())))
	for i, s := range stores() {
		ahead := told(s)
		for _, p := range []api.Pat{
			two(known, con("Cons")), two(known, con("Nil", z)), two(known, con("Cons", two(z, truth()))), two(known, two(z, z)), two(known, con("Nope", z)), two(known, number(-1)),
			two(con("Cons", two(x, y)), con("Cons", two(number(1), con("Cons", two(z, con("Cons", two(truth(), anything()))))))),
			con("Cons", two(x, two(y, z))), con("Node", two(con("Mark", x), con("Mark", con("Leaf", y)))), broad(501, func(int) api.Pat { return anything() }),
			two(known, broad(501, func(int) api.Pat { return anything() })), deepPat(101, x), con("M.N.Wrap", two(x, two(y, con("Mark", z)))),
		} {
			if got := checked(p, e, s); !strings.HasPrefix(got, "wafer error") {
				t.Fatalf("%s: %s", brief(tell(p)), got)
			}
			if got := told(s); got != ahead {
				t.Fatalf("store %d: behind Check(%s): %s, want %s", i, brief(tell(p)), brief(got), brief(ahead))
			}
		}
		if s.Meta().N != s.Count()-1 || s.Unify(meta(s.Count()-1), integer()) == api.ErrNil {
			t.Errorf("store %d does not go on", i)
		}
	}
}

// TestP1501Ahead: what a store knows of the numbers that become the pattern's metas counts, too: with it there may be no typing.
func TestP1501Ahead(t *testing.T) {
	e := place(nil)
	s := unify.New()
	s.Meta()
	s.Unify(meta(0), pair(meta(1), wide(499, boolean())))
	ahead := told(s)
	wantSame(t, "too great", checked(con("Cons", name("x")), e, s), api.ErrType.Error())
	wantSame(t, "the store", told(s), ahead)
	wantSame(t, "not too great", checked(con("Leaf", name("x")), e, s), "#2; x: bool")
	x, _ := s.Resolve(meta(0))
	wantSame(t, "what is known", types.Text(x.Kids[0]), "bool")
}

// spoil: the pattern with something else in place of one part.
func (m *maker) spoil(p api.Pat) api.Pat {
	if len(p.Kids) == 0 || m.Intn(4) == 0 {
		return m.odd(p)
	}
	kids := append([]api.Pat(nil), p.Kids...)
	i := m.Intn(len(kids))
	kids[i] = m.spoil(kids[i])
	p.Kids = kids
	return p
}

func (m *maker) odd(p api.Pat) api.Pat {
	switch m.Intn(12) {
	case 0:
		return name("x0")
	case 1:
		return con(chosen(m, "Nope", "M.Nope", "Nil", "M.Nil", "M.N.End", "Red", "Cons", "E.Nil", "M.Cons"), p)
	case 2:
		return con(chosen(m, "Nope", "M.Nope", "Nil", "M.N.End", "M.Red", "Cons", "Q.Nil"))
	case 3:
		return two(p, p)
	case 4:
		return two(anything(), p)
	case 5:
		return number(int64(m.Intn(4) - 1))
	case 6:
		p.Kind = m.Intn(12) - 1
		return p
	case 7:
		p.Kids = append([]api.Pat{anything()}, p.Kids...)
		return p
	case 8:
		p.Kids = nil
		return p
	case 9:
		return name(chosen(m, "X", "", "if", "$1", "x_", strings.Repeat("b", 32+m.Intn(2))))
	}
	return chosen(m, anything(), nothing(), truth(), untruth(), number(1), con("M.Red"), con("Stop"), m.name())
}

// TestP1501Chance: patterns by chance, in stores in which something is known, against the chapter's words.
func TestP1501Chance(t *testing.T) {
	e := place(nil)
	codes := map[string]int{}
	given := stores()[:3]
	for seed := range int64(30000) {
		m := newMaker(seed)
		p := m.patOf(m.typeOf(4), 8)
		for range m.Intn(3) {
			p = m.spoil(p)
		}
		was := given[seed%3]
		s := was.Clone()
		ahead, count := told(s), s.Count()
		want := plainCheck(p, e)
		if got := checked(p, e, s); got != want {
			t.Fatalf("%d: Check(%s): %s, want %s", seed, brief(tell(p)), got, want)
		}
		if strings.HasPrefix(want, "wafer error") {
			codes[want]++
			wantSame(t, "the store", told(s), ahead)
			continue
		}
		codes["typed"]++
		if strings.Contains(want, "#") {
			codes["constructors"]++
		}
		for n := range count {
			x, _ := s.Resolve(meta(n))
			y, _ := was.Resolve(meta(n))
			wantSame(t, "an old meta", types.Text(x), types.Text(y))
		}
	}
	for _, what := range []string{"typed", "constructors", api.ErrType.Error(), api.ErrUnbound.Error(), api.ErrTwice.Error(), api.ErrArg.Error(), api.ErrName.Error()} {
		if codes[what] < 500 {
			t.Errorf("%s: %d: the test does not try much", what, codes[what])
		}
	}
}

// TestP1501Entries: the entry that stands last counts, and others change nothing.
func TestP1501Entries(t *testing.T) {
	a := env.Con{Name: "A", T: stamp(1), All: []api.Ctor{ctor("A")}}
	b := env.Con{Name: "A", T: stamp(2), Args: []api.Type{integer()}, All: []api.Ctor{ctor("A", integer())}}
	other := env.Con{Name: "B", T: stamp(3), All: []api.Ctor{ctor("B")}}
	wantChecked(t, con("A"), env.Env{Cons: []env.Con{b, a, other}}, "#1")
	wantChecked(t, con("A", name("x")), env.Env{Cons: []env.Con{a, b, other}}, "#2; x: int")
	wantCode(t, con("A"), env.Env{Cons: []env.Con{a, other, b}}, api.ErrType)
	wantCode(t, con("A", name("x")), env.Env{Cons: []env.Con{b, other, a}}, api.ErrType)
	// The two of one name in one pattern, by two paths.
	e := env.Env{Cons: []env.Con{a}, Subs: []env.Sub{{Name: "A", S: api.Str{Types: []api.TyMember{{Name: "t", T: stamp(2), Ctors: []api.Ctor{ctor("A", integer())}}}}, X: v("A")}}}
	wantChecked(t, two(con("A"), con("A.A", name("x"))), e, "#1 * #2; x: int")
	wantChecked(t, two(con("A.A", name("x")), con("A")), e, "#2 * #1; x: int")
	// A datatype may be any type by now: one that a structure tells.
	e = env.Env{Cons: []env.Con{{Name: "A", T: pair(integer(), stamp(4)), Args: []api.Type{fn(stamp(4), stamp(4))}, All: []api.Ctor{ctor("A", fn(stamp(4), stamp(4)))}}}}
	wantChecked(t, two(con("A", name("f")), con("A", anything())), e, "int * #4 * (int * #4); f: #4 -> #4")
}
