package env_test

import (
	"math"
	"slices"
	"strings"
	"testing"

	"wafer/api"
	"wafer/env"
	"wafer/tree"
	"wafer/types"
)

func wantType(t *testing.T, e env.Env, y api.Ty, want api.Type, code api.Errno) {
	t.Helper()
	got, c := e.Type(y)
	answers(t, "Type "+tell(y), got, c, want, code)
}

func wantScheme(t *testing.T, e env.Env, y api.Ty, want api.Scheme, code api.Errno) {
	t.Helper()
	got, c := e.Scheme(y)
	answers(t, "Scheme "+tell(y), got, c, want, code)
}

// means: a type without type variables means the same to both.
func means(t *testing.T, e env.Env, y api.Ty, want api.Type) {
	t.Helper()
	wantType(t, e, y, want, api.OK)
	wantScheme(t, e, y, of(0, want), api.OK)
}

// fails: both have that error.
func fails(t *testing.T, e env.Env, y api.Ty, code api.Errno) {
	t.Helper()
	wantType(t, e, y, api.Type{}, code)
	wantScheme(t, e, y, api.Scheme{}, code)
}

// world: an environment with some types.
func world() env.Env {
	return env.Env{
		Typs: []env.Typ{{Name: "t", T: integer()}, {Name: "t", T: stamp(3)}, {Name: "u", T: fn(stamp(1), unit())}, {Name: "int", T: boolean()}},
		Subs: []env.Sub{{Name: "M", S: str(typ("t", stamp(4), ctor("C")), sub("N", typ("u", pair(stamp(5), stamp(5)))))}},
		Vals: []env.Val{{Name: "v"}},
	}
}

// TestP1302Type: each kind of a written type.
func TestP1302Type(t *testing.T) {
	e := world()
	means(t, e, ycon("int"), integer())
	means(t, e, ycon("bool"), boolean())
	means(t, e, ycon("unit"), unit())
	means(t, e, ycon("t"), stamp(3))
	means(t, e, ycon("u"), fn(stamp(1), unit()))
	means(t, e, ycon("M", "t"), stamp(4))
	means(t, e, ycon("M", "N", "u"), pair(stamp(5), stamp(5)))
	means(t, e, yfn(ycon("int"), ycon("t")), fn(integer(), stamp(3)))
	means(t, e, ypair(ycon("M", "t"), ycon("unit")), pair(stamp(4), unit()))
	means(t, e, yfn(yfn(ycon("t"), ycon("bool")), ypair(ycon("u"), yfn(ycon("int"), ycon("int")))), fn(fn(stamp(3), boolean()), pair(fn(stamp(1), unit()), fn(integer(), integer()))))
	// The words mean the same in an environment without anything, and whatever it has under their names.
	for _, name := range path("int", "bool", "unit") {
		want, _ := env.Env{}.Type(ycon(name))
		wantType(t, env.Env{Typs: []env.Typ{{Name: name, T: stamp(8)}}}, ycon(name), want, api.OK)
		if want.Kind == 0 {
			t.Errorf("%s means nothing", name)
		}
	}
}

// TestP1302Scheme: type variables are TGen in the order in which they first stand from the left.
func TestP1302Scheme(t *testing.T) {
	e := world()
	a, b, c := yvar("a"), yvar("b"), yvar("c")
	wantScheme(t, e, a, of(1, gen(0)), api.OK)
	wantScheme(t, e, yfn(b, a), of(2, fn(gen(0), gen(1))), api.OK)
	wantScheme(t, e, yfn(a, b), of(2, fn(gen(0), gen(1))), api.OK)
	wantScheme(t, e, yfn(b, b), of(1, fn(gen(0), gen(0))), api.OK)
	wantScheme(t, e, ypair(yfn(c, a), yfn(b, c)), of(3, pair(fn(gen(0), gen(1)), fn(gen(2), gen(0)))), api.OK)
	wantScheme(t, e, yfn(ycon("t"), yfn(b, ypair(a, ycon("int")))), of(2, fn(stamp(3), fn(gen(0), pair(gen(1), integer())))), api.OK)
	wantScheme(t, e, yfn(ypair(a, yfn(b, c)), ypair(c, yfn(b, a))), of(3, fn(pair(gen(0), fn(gen(1), gen(2))), pair(gen(2), fn(gen(1), gen(0))))), api.OK)
	// A type variable may be called as a type is, or a word.
	wantScheme(t, e, yfn(yvar("t"), yfn(ycon("t"), yvar("int"))), of(2, fn(gen(0), fn(stamp(3), gen(1)))), api.OK)
	// More than the letters of the alphabet.
	y, want := yvar("v0"), gen(0)
	for i := 1; i < 40; i++ {
		y, want = ypair(y, yvar("v"+strings.Repeat("1", i/2)+strings.Repeat("2", i%2))), pair(want, gen(i))
	}
	got, code := e.Scheme(y)
	if code != api.OK || got.Gens != 40 || !types.RightScheme(got) {
		t.Errorf("40 type variables: Gens %d, %v", got.Gens, code)
	}
	same(t, "40 type variables", got.T, want)
}

// wrongTys: types that are not right, with their errors, that hold also where a path is not there or a type variable stands ahead.
func wrongTys() map[api.Errno][]api.Ty {
	deep := ycon("int")
	for range api.MaxDepth {
		deep = yfn(ycon("int"), deep)
	}
	return map[api.Errno][]api.Ty{
		api.ErrArg: {
			{}, {Kind: 5}, {Kind: -1}, {Kind: api.YFn}, {Kind: api.YPair, Kids: []api.Ty{ycon("int")}}, {Kind: api.YFn, Kids: []api.Ty{ycon("int"), ycon("int"), ycon("int")}},
			{Kind: api.YCon}, {Kind: api.YCon, Path: path("int"), Kids: []api.Ty{ycon("int")}}, {Kind: api.YVar, Name: "a", Path: path("int")}, {Kind: api.YCon, Name: "a", Path: path("int")},
		},
		api.ErrName: {ycon("T"), ycon("M", "T"), ycon("m", "t"), ycon("where"), ycon("M", "int"), ycon(""), yvar(""), yvar("A"), yvar("a_")},
		api.ErrBig:  {ycon("M", "M", "M", "M", "M", "M", "M", "M", "t"), ycon(strings.Repeat("a", 33)), yvar(strings.Repeat("a", 33))},
		api.ErrDeep: {deep},
	}
}

// TestP1302Errors: each error, and which comes first where several apply.
func TestP1302Errors(t *testing.T) {
	e := world()
	missing := ycon("nope")
	for code, l := range wrongTys() {
		for _, y := range l {
			if got := tree.RightTy(y); got != code {
				t.Fatalf("RightTy(%s): %v, want %v", tell(y), got, code)
			}
			fails(t, e, y, code)
			if code == api.ErrDeep {
				continue
			}
			fails(t, e, yfn(missing, y), code)
			fails(t, e, yfn(yvar("a"), y), code)
			fails(t, e, ypair(yfn(missing, yvar("a")), ypair(big(501, ycon("int")), y)), code)
		}
	}
	for _, y := range []api.Ty{missing, ycon("v"), ycon("M", "u"), ycon("M", "N", "t"), ycon("N", "u"), ycon("Z", "t"), ycon("M", "Z", "t"), ycon("M", "M", "t")} {
		fails(t, e, y, api.ErrUnbound)
		fails(t, e, yfn(ycon("int"), y), api.ErrUnbound)
		// Whatever stands ahead of it.
		fails(t, e, yfn(yvar("a"), y), api.ErrUnbound)
		fails(t, e, yfn(y, yvar("a")), api.ErrUnbound)
		fails(t, e, ypair(big(1001, ycon("int")), y), api.ErrUnbound)
		fails(t, e, ypair(y, big(1001, ycon("int"))), api.ErrUnbound)
		fails(t, e, ypair(big(1001, yvar("a")), y), api.ErrUnbound)
	}
	wantType(t, e, yvar("a"), api.Type{}, api.ErrTyvar)
	wantType(t, e, yfn(ycon("int"), yvar("a")), api.Type{}, api.ErrTyvar)
	wantType(t, e, ypair(ypair(yvar("int"), ycon("t")), ycon("int")), api.Type{}, api.ErrTyvar)
	// A type variable is told ahead of too many nodes, wherever it stands.
	wantType(t, e, ypair(big(1001, ycon("int")), yvar("a")), api.Type{}, api.ErrTyvar)
	wantType(t, e, ypair(yvar("a"), big(1001, ycon("int"))), api.Type{}, api.ErrTyvar)
	wantScheme(t, e, ypair(yvar("a"), big(1001, ycon("int"))), api.Scheme{}, api.ErrBig)
	fails(t, env.Env{}, ycon("t"), api.ErrUnbound)
	fails(t, env.Env{Vals: []env.Val{{Name: "t"}}, Subs: []env.Sub{{Name: "t"}}}, ycon("t"), api.ErrUnbound)
}

// big: a written type of so many nodes, an odd number, that is not deep, of such leaves.
func big(nodes int, leaf api.Ty) api.Ty {
	if nodes == 1 {
		return leaf
	}
	left := (nodes - 1) / 2
	if left%2 == 0 {
		left++
	}
	return ypair(big(left, leaf), big(nodes-1-left, leaf))
}

// TestP1302Big: what fits, and what is a node too great: of what is written, and of what it means.
func TestP1302Big(t *testing.T) {
	const most = api.MaxType
	row := func(nodes int) api.Type { // any number of nodes, which right types have not
		l := make([]api.Type, nodes-1)
		for i := range l {
			l[i] = stamp(i)
		}
		return node(9, 0, l...)
	}
	e := env.Env{
		Typs: []env.Typ{
			{Name: "fits", T: row(most)}, {Name: "more", T: row(most + 1)}, {Name: "far", T: row(20 * most)},
			{Name: "a", T: row(499)}, {Name: "b", T: row(500)}, {Name: "c", T: row(501)},
		},
		Subs: []env.Sub{{Name: "M", S: str(typ("fits", row(most)), typ("more", row(most+1)))}},
	}
	means(t, e, ycon("fits"), row(most))
	means(t, e, ycon("M", "fits"), row(most))
	fails(t, e, ycon("more"), api.ErrBig)
	fails(t, e, ycon("M", "more"), api.ErrBig)
	fails(t, e, ycon("far"), api.ErrBig)
	means(t, e, ypair(ycon("a"), ycon("a")), pair(row(499), row(499)))
	means(t, e, ypair(ycon("a"), ycon("b")), pair(row(499), row(500)))
	means(t, e, yfn(ycon("b"), ycon("a")), fn(row(500), row(499)))
	fails(t, e, ypair(ycon("b"), ycon("b")), api.ErrBig)
	fails(t, e, ypair(ycon("a"), ycon("c")), api.ErrBig)
	fails(t, e, yfn(ycon("fits"), ycon("int")), api.ErrBig)
	fails(t, e, yfn(ycon("int"), ycon("fits")), api.ErrBig)
	// Words and type variables are nodes, too.
	for _, leaf := range []api.Ty{ycon("int"), yvar("a")} {
		got, code := e.Scheme(big(most-1, leaf))
		if code != api.OK || types.Size(got.T) != most-1 {
			t.Errorf("%d nodes: %v", most-1, code)
		}
		wantScheme(t, e, big(most+1, leaf), api.Scheme{}, api.ErrBig)
		wantScheme(t, e, big(100001, leaf), api.Scheme{}, api.ErrBig)
	}
	wantType(t, e, big(most+1, ycon("int")), api.Type{}, api.ErrBig)
	if _, code := e.Type(big(most-1, ycon("int"))); code != api.OK {
		t.Errorf("%d nodes: %v", most-1, code)
	}
	// A path stands for all nodes of its type, one word for one.
	e.Typs = append(e.Typs, env.Typ{Name: "x", T: row(334)})
	fails(t, e, ypair(ycon("x"), ypair(ycon("x"), ycon("x"))), api.ErrBig)
	if _, code := e.Type(ypair(ycon("x"), ypair(ycon("x"), ycon("int")))); code != api.OK {
		t.Errorf("671 nodes: %v", code)
	}
}

// plainMeaning: what a right type means, and what is wrong with it.
func plainMeaning(e env.Env, y api.Ty, vars *[]string, unbound *bool) api.Type {
	switch y.Kind {
	case api.YVar:
		if !slices.Contains(*vars, y.Name) {
			*vars = append(*vars, y.Name)
		}
		return gen(slices.Index(*vars, y.Name))
	case api.YFn, api.YPair:
		kind := api.TFn
		if y.Kind == api.YPair {
			kind = api.TPair
		}
		first := plainMeaning(e, y.Kids[0], vars, unbound)
		return node(kind, 0, first, plainMeaning(e, y.Kids[1], vars, unbound))
	}
	switch strings.Join(y.Path, ".") {
	case "int":
		return integer()
	case "bool":
		return boolean()
	case "unit":
		return unit()
	}
	found, code := plainTyp(e, y.Path)
	if code != api.OK {
		*unbound = true
	}
	return found.T
}

func (m maker) written(depth int) api.Ty {
	if depth > 1 && m.Intn(3) > 0 {
		return chosen(m.Rand, []func(a, b api.Ty) api.Ty{yfn, ypair})(m.written(depth-1), m.written(depth-1))
	}
	switch m.Intn(6) {
	case 0, 1:
		return ycon(chosen(m.Rand, path("int", "bool", "unit")))
	case 2:
		return yvar(chosen(m.Rand, path("a", "b", "c", "t")))
	}
	return ycon(m.path(true)...)
}

// TestP1302Chance: written types by chance in environments by chance, against the chapter's words.
func TestP1302Chance(t *testing.T) {
	codes := map[api.Errno]int{}
	for seed := range int64(8000) {
		m := newMaker(seed)
		e := m.env(3)
		if m.Intn(6) == 0 && len(e.Typs) > 0 {
			e.Typs[0].T = node(9, 0, make([]api.Type, 300+m.Intn(700))...)
		}
		y := m.written(1 + m.Intn(4))
		var vars []string
		unbound := false
		code := tree.RightTy(y)
		var want api.Type
		if code == api.OK {
			want = plainMeaning(e, y, &vars, &unbound)
			switch {
			case unbound:
				code = api.ErrUnbound
			case plainSizeType(want) > api.MaxType:
				code = api.ErrBig
			}
		}
		codes[code]++
		if code != api.OK {
			wantScheme(t, e, y, api.Scheme{}, code)
		} else {
			wantScheme(t, e, y, of(len(vars), want), api.OK)
		}
		if len(vars) > 0 && (code == api.OK || code == api.ErrBig) {
			code = api.ErrTyvar
		}
		codes[code]++
		if code != api.OK {
			want = api.Type{}
		}
		wantType(t, e, y, want, code)
	}
	for _, code := range []api.Errno{api.OK, api.ErrUnbound, api.ErrTyvar, api.ErrBig, api.ErrName} {
		if codes[code] < 20 {
			t.Errorf("only %d had %v", codes[code], code)
		}
	}
}

// TestP1302Stamps: those of all six lists, not of terms, bound ones left out, rising, each once.
func TestP1302Stamps(t *testing.T) {
	x := api.TM{Kind: api.XInst, N: 91, Types: []api.TT{{Kind: api.GVar, N: 92}}, Kids: []api.TM{variable("m")}}
	stamps := func(e env.Env, want ...int) {
		t.Helper()
		same(t, "Stamps of "+tell(e), e.Stamps(), want)
	}
	stamps(env.Env{})
	stamps(env.Env{Vals: []env.Val{{S: of(1, fn(stamp(7), pair(gen(0), stamp(2)))), X: x}}}, 2, 7)
	stamps(env.Env{Cons: []env.Con{{T: stamp(4), Args: []api.Type{fn(stamp(3), integer())}, N: 90, All: []api.Ctor{ctor("A", stamp(9)), ctor("B"), ctor("C", unit(), stamp(1))}, X: x, Out: x}}}, 1, 3, 4, 9)
	stamps(env.Env{Cons: []env.Con{{T: stamp(4)}}}, 4)
	stamps(env.Env{Cons: []env.Con{{T: integer(), Args: []api.Type{stamp(6)}}}}, 6)
	stamps(env.Env{Cons: []env.Con{{T: integer(), All: []api.Ctor{ctor("A", stamp(8))}}}}, 8)
	stamps(env.Env{Typs: []env.Typ{{T: pair(stamp(5), stamp(0)), Ctors: []api.Ctor{ctor("A", stamp(6)), ctor("B", stamp(5))}}}}, 0, 5, 6)
	s := str(
		typ("t", stamp(5), ctor("A", stamp(11))), val("x", stamp(3)), sub("M", val("y", stamp(4))),
		functor("F", ints(1, 4), str(val("x", stamp(1)), val("y", stamp(20))), abs(ints(2, 3), val("z", pair(stamp(1), stamp(2))), val("w", stamp(21)))),
		sig("S", ints(5), typ("t", stamp(5)), typ("u", stamp(22))),
	)
	stamps(env.Env{Subs: []env.Sub{{Name: "M", S: s, X: x}}}, 3, 4, 5, 11, 20, 21, 22)
	stamps(env.Env{Funs: []env.Fun{{F: s.Funs[0].F, X: x}}}, 20, 21)
	stamps(env.Env{Sigs: []env.Sig{{A: s.Sigs[0].A}}}, 22)
	// What is bound in one place may be free in another one.
	stamps(env.Env{Sigs: []env.Sig{{A: s.Sigs[0].A}}, Vals: []env.Val{{S: of(0, stamp(5))}}}, 5, 22)
	stamps(env.Env{Funs: []env.Fun{{F: s.Funs[0].F}}, Typs: []env.Typ{{T: stamp(2)}, {T: stamp(2)}}, Subs: []env.Sub{{S: str(typ("t", stamp(1)))}}}, 1, 2, 20, 21)
	// All entries count, those too that a later one of their name hides.
	stamps(env.Env{Typs: []env.Typ{{Name: "t", T: stamp(8)}, {Name: "t", T: stamp(7)}}}, 7, 8)
	stamps(env.Env{Typs: []env.Typ{{T: stamp(math.MaxInt)}, {T: stamp(math.MinInt)}, {T: stamp(-1)}, {T: node(api.TStamp, 0, stamp(1))}, {T: node(api.TMeta, 50)}, {T: gen(51)}, {T: node(api.TInt, 52, stamp(2))}}}, math.MinInt, -1, 0, 1, 2, math.MaxInt)
	for seed := range int64(3000) {
		e := newMaker(seed).env(3)
		stamps(e, plainStamps(e)...)
	}
}
