package core_test

import (
	"wafer/api"
	"wafer/env"
	"wafer/kernel"
	"wafer/names"
	"wafer/trans"
)

func ctor(name string, args ...api.Type) api.Ctor { return api.Ctor{Name: name, Args: args} }

func v(name string) api.TM { return api.TM{Kind: api.XVar, Name: name} }

// data: a datatype of the tests: its stamp, where it stands, and its constructors.
type data struct {
	stamp int
	at    string // what stands ahead of its names in paths
	name  string
	ctors []api.Ctor
}

// world: datatypes of which some stand in structures; Cons is a constructor of several.
func world() []data {
	return []data{
		{1, "", "list", []api.Ctor{ctor("Nil"), ctor("Cons", pair(integer(), stamp(1)))}},
		{2, "", "tree", []api.Ctor{ctor("Leaf", boolean()), ctor("Node", pair(stamp(2), stamp(2))), ctor("Mark", stamp(1)), ctor("Stop")}},
		{3, "", "act", []api.Ctor{ctor("Act", fn(integer(), integer())), ctor("Roll", fn(stamp(3), integer()))}},
		{7, "", "dot", []api.Ctor{ctor("Dot")}},
		{4, "M.", "colour", []api.Ctor{ctor("Red"), ctor("Green"), ctor("Blue")}},
		{5, "M.N.", "box", []api.Ctor{ctor("Box", pair(stamp(4), stamp(1))), ctor("Cons", unit()), ctor("Empty")}},
	}
}

func datatype(n int) (data, bool) {
	for _, d := range world() {
		if d.stamp == n {
			return d, true
		}
	}
	return data{}, false
}

// Stamps without constructors: of types that are hidden.
const (
	hid   = 8
	other = 6
)

// scheme: what is written, in the world's words.
func schemeOf(e env.Env, s string) api.Scheme {
	out, err := e.Scheme(ty(s))
	if err != api.OK {
		panic("no scheme: " + s)
	}
	return out
}

// typeNames: the types of the world by themselves; n, in which a name stands for more, aside.
func typeNames() env.Env {
	e := env.Env{Typs: []env.Typ{{Name: "list", T: boolean()}, {Name: "hid", T: stamp(hid)}, {Name: "two", T: pair(integer(), integer())}}}
	var m, n api.Str
	for _, d := range world() {
		switch d.at {
		case "":
			e.Typs = append(e.Typs, env.Typ{Name: d.name, T: stamp(d.stamp), Ctors: d.ctors})
		case "M.":
			m.Types = append(m.Types, api.TyMember{Name: d.name, T: stamp(d.stamp), Ctors: d.ctors})
		case "M.N.":
			n.Types = append(n.Types, api.TyMember{Name: d.name, T: stamp(d.stamp), Ctors: d.ctors})
		}
	}
	m.Types = append(m.Types, api.TyMember{Name: "t", T: stamp(other)}, api.TyMember{Name: "u", T: boolean()})
	m.Subs = []api.SubMember{{Name: "N", S: n}}
	// Of two of one name the later one counts.
	e.Subs = []env.Sub{{Name: "M", X: v("M0")}, {Name: "M", S: m, X: v("M")}, {Name: "E", X: v("E")}}
	return e
}

// value: a value of the world: the path, the scheme as it is written.
type value struct{ path, s string }

func values() []value {
	return []value{
		{"one", "int"}, {"flag", "bool"}, {"void", "unit"}, {"nums", "list"}, {"h", "hid"},
		{"ident", "'a -> 'a"}, {"const", "'a -> 'b -> 'a"}, {"swap", "'a * 'b -> 'b * 'a"}, {"twice", "('a -> 'a) -> 'a -> 'a"},
		{"inc", "int -> int"}, {"seen", "hid -> int"}, {"stuck", "'a -> int"},
		{"M.x", "M.t"}, {"M.get", "M.t -> int"}, {"M.mk", "int -> M.t"}, {"M.dup", "'a -> 'a * 'a"}, {"M.on", "('a -> 'b) -> 'a -> 'b"},
		{"M.N.one", "bool"}, {"M.N.y", "M.N.box"}, {"M.N.fst", "'a * 'b -> 'a"},
	}
}

// place: the environment of the world, which is plain.
func place() env.Env {
	e := typeNames()
	e.Vals = []env.Val{{Name: "one", S: api.Scheme{T: unit()}, X: v("one")}, {Name: "ident", S: api.Scheme{T: integer()}, X: v("ident")}}
	e.Cons = []env.Con{{Name: "Nil", T: stamp(70), All: []api.Ctor{ctor("Nil")}, X: v("Nil()"), Out: v("out none")}}
	for _, x := range values() {
		s, path := schemeOf(e, x.s), id(x.path).Path
		m := &e.Subs[1].S
		switch len(path) {
		case 1:
			e.Vals = append(e.Vals, env.Val{Name: path[0], S: s, X: v(path[0])})
		case 2:
			m.Vals = append(m.Vals, api.ValMember{Name: path[1], S: s})
		case 3:
			m.Subs[0].S.Vals = append(m.Subs[0].S.Vals, api.ValMember{Name: path[2], S: s})
		}
	}
	for _, d := range world() {
		if d.at != "" {
			continue
		}
		for n, c := range d.ctors {
			e.Cons = append(e.Cons, env.Con{Name: c.Name, T: stamp(d.stamp), Args: c.Args, N: n, All: d.ctors, X: v(names.Con(c.Name)), Out: v(names.Out(d.name))})
		}
	}
	return e
}

// around: the numbers and names with which the kernel takes the terms of an environment: its free stamps, and each name of a term of its at what trans says.
func around(e env.Env) ([]int, []kernel.Bind) {
	var l []kernel.Bind
	bind := func(x api.TM, t api.TT, err api.Errno) {
		if err != api.OK {
			panic("trans does not take what stands in the environment")
		}
		if x.Kind == api.XVar {
			l = append(l, kernel.Bind{Name: x.Name, T: t})
		}
	}
	for _, x := range e.Vals {
		t, err := trans.Scheme(x.S)
		bind(x.X, t, err)
	}
	for _, x := range e.Cons {
		t, err := trans.Con(x.T.N, x.All[x.N])
		bind(x.X, t, err)
		sum, err := trans.Sum(x.All)
		bind(x.Out, api.TT{Kind: api.GFn, Kids: []api.TT{{Kind: api.GVar, N: x.T.N}, sum}}, err)
	}
	for _, x := range e.Subs {
		t, err := trans.Str(x.S)
		bind(x.X, t, err)
	}
	return e.Stamps(), l
}
