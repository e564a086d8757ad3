package env_test

import (
	"fmt"
	"strings"
	"testing"

	"wafer/api"
	"wafer/env"
)

// answers: a call answers what is wanted.
func answers[A any](t *testing.T, what string, got A, code api.Errno, want A, wantCode api.Errno) {
	t.Helper()
	if code != wantCode {
		t.Fatalf("%s: %v, want %v", brief(what), code, wantCode)
	}
	same(t, what, got, want)
}

// finds: what a lookup answers of a path.
func finds[E any](t *testing.T, look func(env.Env, []string) (E, api.Errno), e env.Env, p []string, want E, code api.Errno) {
	t.Helper()
	got, c := look(e, p)
	answers(t, fmt.Sprintf("%T at %q", want, p[:min(len(p), 20)]), got, c, want, code)
}

// wantNone: nothing of any kind stands at a path.
func wantNone(t *testing.T, e env.Env, p ...string) {
	t.Helper()
	finds(t, env.Env.Val, e, p, env.Val{}, api.ErrUnbound)
	finds(t, env.Env.Con, e, p, env.Con{}, api.ErrUnbound)
	finds(t, env.Env.Typ, e, p, env.Typ{}, api.ErrUnbound)
	finds(t, env.Env.Sub, e, p, env.Sub{}, api.ErrUnbound)
	finds(t, env.Env.Fun, e, p, env.Fun{}, api.ErrUnbound)
	finds(t, env.Env.Sig, e, p, env.Sig{}, api.ErrUnbound)
}

// inner: a structure with something of each kind, by which it is told apart from others.
func inner(n int, more ...any) api.Str {
	return str(append([]any{
		typ("t", stamp(n), ctor("C", pair(integer(), stamp(n))), ctor("D")), typ("u", integer()),
		poly("x", 1, fn(gen(0), stamp(n))), val("y", boolean()),
		functor("F", ints(n), str(typ("a", stamp(n))), abs(ints(n+1), typ("b", stamp(n+1)))),
		sig("S", ints(n), typ("a", stamp(n))),
	}, more...)...)
}

// full: an environment with something of each kind, M with all of it, and M.N, M.N.O, .. likewise.
func full(depth int) env.Env {
	s := inner(100 + depth)
	for n := depth - 1; n > 0; n-- {
		s = inner(100+n, api.SubMember{Name: "N", S: s})
	}
	return env.Env{
		Vals: []env.Val{{Name: "x", S: of(0, integer()), X: variable("x")}},
		Cons: []env.Con{{Name: "C", T: stamp(1), Args: []api.Type{integer()}, N: 1, All: []api.Ctor{ctor("B"), ctor("C", integer())}, X: variable("c"), Out: variable("o")}},
		Typs: []env.Typ{{Name: "t", T: stamp(1), Ctors: []api.Ctor{ctor("B"), ctor("C", integer())}}, {Name: "u", T: unit()}},
		Subs: []env.Sub{{Name: "M", S: s, X: variable("m")}},
		Funs: []env.Fun{{Name: "F", F: functor("F", ints(2), str(), abs(nil)).F, X: variable("f")}},
		Sigs: []env.Sig{{Name: "S", A: abs(ints(3), typ("t", stamp(3)))}},
	}
}

// TestP1301Own: a path of one name is looked for in the environment's own lists, and the entry is told as it stands there.
func TestP1301Own(t *testing.T) {
	e := full(3)
	finds(t, env.Env.Val, e, path("x"), e.Vals[0], api.OK)
	finds(t, env.Env.Con, e, path("C"), e.Cons[0], api.OK)
	finds(t, env.Env.Typ, e, path("t"), e.Typs[0], api.OK)
	finds(t, env.Env.Typ, e, path("u"), e.Typs[1], api.OK)
	finds(t, env.Env.Sub, e, path("M"), e.Subs[0], api.OK)
	finds(t, env.Env.Fun, e, path("F"), e.Funs[0], api.OK)
	finds(t, env.Env.Sig, e, path("S"), e.Sigs[0], api.OK)
	// B is one of the constructors of t, but no entry of Cons.
	wantNone(t, e, "B")
	wantNone(t, e, "D")
	wantNone(t, e, "y")
	wantNone(t, e, "N")
}

// TestP1301Nothing: an empty path, and an environment without anything.
func TestP1301Nothing(t *testing.T) {
	for _, e := range []env.Env{{}, full(3), {Vals: []env.Val{{}}, Cons: []env.Con{{}}, Typs: []env.Typ{{}}, Subs: []env.Sub{{}}, Funs: []env.Fun{{}}, Sigs: []env.Sig{{}}}} {
		wantNone(t, e)
		wantNone(t, e, []string{}...)
	}
	wantNone(t, env.Env{}, "x")
	wantNone(t, env.Env{}, "M", "x")
	wantNone(t, env.Env{}, "")
}

// TestP1301Inner: a path of more names: the terms select by the labels, one around the other.
func TestP1301Inner(t *testing.T) {
	const depth = 12
	e := full(depth)
	p, x := path("M"), variable("m")
	s := e.Subs[0].S
	for n := 101; n <= 100+depth; n++ {
		at := func(name string) []string { return append(p[:len(p):len(p)], name) }
		finds(t, env.Env.Sub, e, p, env.Sub{Name: p[len(p)-1], S: s, X: x}, api.OK)
		finds(t, env.Env.Val, e, at("x"), env.Val{Name: "x", S: of(1, fn(gen(0), stamp(n))), X: sel("x", x)}, api.OK)
		finds(t, env.Env.Val, e, at("y"), env.Val{Name: "y", S: of(0, boolean()), X: sel("y", x)}, api.OK)
		all := []api.Ctor{ctor("C", pair(integer(), stamp(n))), ctor("D")}
		finds(t, env.Env.Con, e, at("C"), env.Con{Name: "C", T: stamp(n), Args: all[0].Args, N: 0, All: all, X: sel("C()", x), Out: sel("out t", x)}, api.OK)
		finds(t, env.Env.Con, e, at("D"), env.Con{Name: "D", T: stamp(n), N: 1, All: all, X: sel("D()", x), Out: sel("out t", x)}, api.OK)
		finds(t, env.Env.Typ, e, at("t"), env.Typ{Name: "t", T: stamp(n), Ctors: all}, api.OK)
		finds(t, env.Env.Typ, e, at("u"), env.Typ{Name: "u", T: integer()}, api.OK)
		finds(t, env.Env.Fun, e, at("F"), env.Fun{Name: "F", F: s.Funs[0].F, X: sel("F", x)}, api.OK)
		finds(t, env.Env.Sig, e, at("S"), env.Sig{Name: "S", A: s.Sigs[0].A}, api.OK)
		// What the environment has by itself is not looked for in a structure, nor what another structure has.
		wantNone(t, e, at("B")...)
		wantNone(t, e, at("z")...)
		wantNone(t, e, at("M")...)
		wantNone(t, e, at("")...)
		if n < 100+depth {
			p, x, s = at("N"), sel("N", x), s.Subs[0].S
		}
	}
	wantNone(t, e, append(p, "N")...)
	wantNone(t, e, append(p, "N", "x")...)
}

// TestP1301Kinds: each kind is looked for among its own alone.
func TestP1301Kinds(t *testing.T) {
	e := full(2)
	for name, kinds := range map[string]string{"x": "v", "C": "c", "t": "t", "M": "m", "F": "f", "S": "s"} {
		if _, c := e.Val(path(name)); (c == api.OK) != strings.Contains(kinds, "v") {
			t.Errorf("Val %s: %v", name, c)
		}
		if _, c := e.Con(path(name)); (c == api.OK) != strings.Contains(kinds, "c") {
			t.Errorf("Con %s: %v", name, c)
		}
		if _, c := e.Typ(path(name)); (c == api.OK) != strings.Contains(kinds, "t") {
			t.Errorf("Typ %s: %v", name, c)
		}
		if _, c := e.Sub(path(name)); (c == api.OK) != strings.Contains(kinds, "m") {
			t.Errorf("Sub %s: %v", name, c)
		}
		if _, c := e.Fun(path(name)); (c == api.OK) != strings.Contains(kinds, "f") {
			t.Errorf("Fun %s: %v", name, c)
		}
		if _, c := e.Sig(path(name)); (c == api.OK) != strings.Contains(kinds, "s") {
			t.Errorf("Sig %s: %v", name, c)
		}
	}
	// A functor and a signature are no structures that a path leads through.
	e.Funs[0].F.Arg, e.Funs[0].F.Res.S, e.Sigs[0].A.S = inner(1), inner(2), inner(3)
	wantNone(t, e, "F", "x")
	wantNone(t, e, "S", "t")
	wantNone(t, e, "M", "F", "a")
	wantNone(t, e, "M", "S", "a")
	wantNone(t, e, "t", "C")
	wantNone(t, e, "M", "t", "C")
}

// TestP1301Missing: a name that is not there, at each place of the path.
func TestP1301Missing(t *testing.T) {
	e := full(5)
	right := path("M", "N", "N", "N")
	for _, last := range path("x", "C", "t", "N", "F", "S") {
		p := append(right[:4:4], last)
		for at := range p {
			for _, wrong := range path("Z", "", "M.N", "m", "N ", "MN") {
				q := append([]string(nil), p...)
				q[at] = wrong
				wantNone(t, e, q...)
			}
		}
	}
	wantNone(t, e, "N", "N", "x")
	wantNone(t, e, "M", "M", "x")
	wantNone(t, e, "M.N", "x")
	wantNone(t, e, "M.x")
	wantNone(t, e, strings.Split(strings.Repeat("M.", 500)+"x", ".")...)
}

// TestP1301Twice: of two entries of one list with one name the later one counts, in environments and in structures.
func TestP1301Twice(t *testing.T) {
	e := env.Env{
		Vals: []env.Val{{Name: "x", X: variable("1")}, {Name: "y", X: variable("2")}, {Name: "x", X: variable("3")}, {Name: "z", X: variable("4")}},
		Cons: []env.Con{{Name: "C", N: 5}, {Name: "D", N: 6}, {Name: "C", N: 7}, {Name: "E", N: 8}},
		Typs: []env.Typ{{Name: "t", T: stamp(1)}, {Name: "u", T: stamp(2)}, {Name: "t", T: stamp(3)}, {Name: "v", T: stamp(4)}},
		Subs: []env.Sub{
			{Name: "M", X: variable("1"), S: str(val("only", integer()), val("x", integer()))},
			{Name: "N", X: variable("2"), S: str(val("x", integer()), val("y", unit()), val("x", boolean()), val("z", unit()))},
			{Name: "M", X: variable("3"), S: str(val("x", boolean()), sub("P", typ("t", integer())), sub("Q"), sub("P", typ("t", boolean())), sub("R"))},
			{Name: "O", X: variable("4")},
		},
		Funs: []env.Fun{{Name: "F", X: variable("1")}, {Name: "G", X: variable("2")}, {Name: "F", X: variable("3")}, {Name: "H", X: variable("4")}},
		Sigs: []env.Sig{{Name: "S", A: abs(ints(1))}, {Name: "T", A: abs(ints(2))}, {Name: "S", A: abs(ints(3))}, {Name: "U", A: abs(ints(4))}},
	}
	finds(t, env.Env.Val, e, path("x"), e.Vals[2], api.OK)
	finds(t, env.Env.Con, e, path("C"), e.Cons[2], api.OK)
	finds(t, env.Env.Typ, e, path("t"), e.Typs[2], api.OK)
	finds(t, env.Env.Sub, e, path("M"), e.Subs[2], api.OK)
	finds(t, env.Env.Fun, e, path("F"), e.Funs[2], api.OK)
	finds(t, env.Env.Sig, e, path("S"), e.Sigs[2], api.OK)
	for i, name := range path("x", "y", "x", "z") {
		if i%2 == 1 {
			finds(t, env.Env.Val, e, path(name), e.Vals[i], api.OK)
		}
	}

	finds(t, env.Env.Val, e, path("N", "x"), env.Val{Name: "x", S: of(0, boolean()), X: sel("x", variable("2"))}, api.OK)
	finds(t, env.Env.Val, e, path("M", "x"), env.Val{Name: "x", S: of(0, boolean()), X: sel("x", variable("3"))}, api.OK)
	// The earlier M is not there any more: what it alone has is not found.
	wantNone(t, e, "M", "only")
	finds(t, env.Env.Typ, e, path("M", "P", "t"), env.Typ{Name: "t", T: boolean()}, api.OK)
	finds(t, env.Env.Sub, e, path("M", "P"), env.Sub{Name: "P", S: str(typ("t", boolean())), X: sel("P", variable("3"))}, api.OK)

	s := str(
		typ("t", stamp(1)), typ("u", stamp(2)), typ("t", stamp(3)),
		functor("F", ints(1), str(), abs(nil)), functor("G", ints(2), str(), abs(nil)), functor("F", ints(3), str(), abs(nil)),
		sig("S", ints(1)), sig("T", ints(2)), sig("S", ints(3)),
	)
	e = env.Env{Subs: []env.Sub{{Name: "M", S: s, X: variable("M")}}}
	finds(t, env.Env.Typ, e, path("M", "t"), env.Typ{Name: "t", T: stamp(3)}, api.OK)
	finds(t, env.Env.Fun, e, path("M", "F"), env.Fun{Name: "F", F: s.Funs[2].F, X: sel("F", variable("M"))}, api.OK)
	finds(t, env.Env.Sig, e, path("M", "S"), env.Sig{Name: "S", A: s.Sigs[2].A}, api.OK)
}

// TestP1301Constructors: of several constructors of one name the last type's counts, whatever that is called, and where types of one name have them.
func TestP1301Constructors(t *testing.T) {
	x := variable("M")
	env1 := func(members ...any) env.Env {
		return env.Env{Subs: []env.Sub{{Name: "M", S: str(members...), X: x}}}
	}
	first := typ("a", stamp(1), ctor("A"), ctor("B", integer()), ctor("C", unit()))
	second := typ("b", stamp(2), ctor("C", boolean()), ctor("B"))
	third := typ("c", stamp(3))
	e := env1(first, second, third)
	finds(t, env.Env.Con, e, path("M", "A"), env.Con{Name: "A", T: stamp(1), N: 0, All: first.Ctors, X: sel("A()", x), Out: sel("out a", x)}, api.OK)
	finds(t, env.Env.Con, e, path("M", "B"), env.Con{Name: "B", T: stamp(2), N: 1, All: second.Ctors, X: sel("B()", x), Out: sel("out b", x)}, api.OK)
	finds(t, env.Env.Con, e, path("M", "C"), env.Con{Name: "C", T: stamp(2), N: 0, Args: []api.Type{boolean()}, All: second.Ctors, X: sel("C()", x), Out: sel("out b", x)}, api.OK)
	// The other way round, though these are not in the order of names.
	e = env1(third, second, first)
	finds(t, env.Env.Con, e, path("M", "B"), env.Con{Name: "B", T: stamp(1), N: 1, Args: []api.Type{integer()}, All: first.Ctors, X: sel("B()", x), Out: sel("out a", x)}, api.OK)
	finds(t, env.Env.Con, e, path("M", "C"), env.Con{Name: "C", T: stamp(1), N: 2, Args: []api.Type{unit()}, All: first.Ctors, X: sel("C()", x), Out: sel("out a", x)}, api.OK)
	// Two types of one name: the constructors of both are there.
	e = env1(first, typ("a", stamp(9), ctor("B", unit())))
	finds(t, env.Env.Con, e, path("M", "A"), env.Con{Name: "A", T: stamp(1), N: 0, All: first.Ctors, X: sel("A()", x), Out: sel("out a", x)}, api.OK)
	finds(t, env.Env.Con, e, path("M", "B"), env.Con{Name: "B", T: stamp(9), N: 0, Args: []api.Type{unit()}, All: []api.Ctor{ctor("B", unit())}, X: sel("B()", x), Out: sel("out a", x)}, api.OK)
	// The types' own names, and the labels, are none of constructors; a type without Ctors has none.
	for _, name := range path("a", "c", "A()", "out a", "D", "") {
		if _, c := e.Con(path("M", name)); c != api.ErrUnbound {
			t.Errorf("Con %q: %v", name, c)
		}
	}
	// A type whose T is no stamp, and names that are none: whatever stands there is told.
	wild := typ("", node(9, -4, stamp(2)), ctor("", stamp(1), stamp(2)), ctor("x"), ctor("x", unit()))
	e = env1(wild)
	finds(t, env.Env.Con, e, path("M", ""), env.Con{Name: "", T: wild.T, N: 0, Args: wild.Ctors[0].Args, All: wild.Ctors, X: sel("()", x), Out: sel("out ", x)}, api.OK)
	finds(t, env.Env.Con, e, path("M", "x"), env.Con{Name: "x", T: wild.T, N: 2, Args: wild.Ctors[2].Args, All: wild.Ctors, X: sel("x()", x), Out: sel("out ", x)}, api.OK)
}

// TestP1301Example: that of the chapter.
func TestP1301Example(t *testing.T) {
	m := variable("M")
	e := env.Env{Subs: []env.Sub{{Name: "M", S: str(typ("t", stamp(4), ctor("C")), val("x", integer())), X: m}}}
	finds(t, env.Env.Val, e, path("M", "x"), env.Val{Name: "x", S: of(0, integer()), X: sel("x", m)}, api.OK)
	finds(t, env.Env.Con, e, path("M", "C"), env.Con{Name: "C", T: stamp(4), All: []api.Ctor{ctor("C")}, X: sel("C()", m), Out: sel("out t", m)}, api.OK)
}

// TestP1301Chance: environments and paths by chance, right and wild, against the chapter's words.
func TestP1301Chance(t *testing.T) {
	found := map[string]int{}
	for seed := range int64(2500) {
		m := newMaker(seed)
		e := m.env(3)
		for range 12 {
			for _, p := range [][]string{m.path(true), m.path(false)} {
				val, c1 := plainVal(e, p)
				finds(t, env.Env.Val, e, p, val, c1)
				con, c2 := plainCon(e, p)
				finds(t, env.Env.Con, e, p, con, c2)
				typ, c3 := plainTyp(e, p)
				finds(t, env.Env.Typ, e, p, typ, c3)
				sub, c4 := plainSubAt(e, p)
				finds(t, env.Env.Sub, e, p, sub, c4)
				fun, c5 := plainFun(e, p)
				finds(t, env.Env.Fun, e, p, fun, c5)
				sig, c6 := plainSig(e, p)
				finds(t, env.Env.Sig, e, p, sig, c6)
				for i, c := range []api.Errno{c1, c2, c3, c4, c5, c6} {
					if c == api.OK {
						found[fmt.Sprint(i, min(len(p), 3))]++
					}
				}
			}
		}
	}
	for _, kind := range "012345" {
		for _, length := range "123" {
			if n := found[string(kind)+" "+string(length)]; n < 20 {
				t.Errorf("only %d of kind %c were found at paths of %c names", n, kind, length)
			}
		}
	}
}
