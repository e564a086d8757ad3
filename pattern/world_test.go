package pattern_test

import (
	"math/rand"
	"slices"
	"strconv"

	"wafer/api"
	"wafer/env"
	"wafer/kernel"
	"wafer/names"
	"wafer/trans"
)

func ctor(name string, args ...api.Type) api.Ctor { return api.Ctor{Name: name, Args: args} }

// data: a datatype of the tests: its stamp, where its constructors stand, and what they are.
type data struct {
	stamp int
	at    string // what stands ahead of their names in paths
	name  string
	ctors []api.Ctor
}

// world: datatypes of which some stand in structures; Cons, End and None are constructors of several.
func world() []data {
	return []data{
		{1, "", "list", []api.Ctor{ctor("Nil"), ctor("Cons", pair(integer(), stamp(1)))}},
		{2, "", "tree", []api.Ctor{ctor("Leaf", boolean()), ctor("Node", pair(stamp(2), stamp(2))), ctor("Mark", stamp(1)), ctor("Stop")}},
		{3, "", "one", []api.Ctor{ctor("Only", pair(unit(), integer()))}},
		{9, "", "dot", []api.Ctor{ctor("Dot")}},
		{4, "M.", "colour", []api.Ctor{ctor("Red"), ctor("Green"), ctor("Blue")}},
		{5, "M.", "t", []api.Ctor{ctor("Cons", boolean()), ctor("End")}},
		{6, "M.N.", "deep", []api.Ctor{ctor("Wrap", pair(stamp(4), pair(integer(), stamp(1)))), ctor("None"), ctor("Keep", fn(integer(), stamp(1)))}},
		{7, "M.N.", "u", []api.Ctor{ctor("End", pair(stamp(7), stamp(6))), ctor("Cons", unit()), ctor("Two", pair(stamp(2), boolean()))}},
	}
}

// out: the variable that takes a datatype apart which stands in no structure.
func (d data) out() string { return names.Out(d.name) }

func (d data) member() api.TyMember {
	return api.TyMember{Name: d.name, T: stamp(d.stamp), Ctors: d.ctors}
}

// structure: that of the world which is called M, with N in it.
func structure() api.Str {
	var m, n api.Str
	for _, d := range world() {
		switch d.at {
		case "M.":
			m.Types = append(m.Types, d.member())
		case "M.N.":
			n.Types = append(n.Types, d.member())
		}
	}
	m.Subs = []api.SubMember{{Name: "N", S: n}}
	return m
}

// place: the environment of the world, with other ones of some names ahead, which count for nothing. outs has the names of variables for those which take datatypes apart.
func place(outs map[int]string) env.Env {
	e := env.Env{
		Cons: []env.Con{{Name: "Cons", T: stamp(70), All: []api.Ctor{ctor("Cons")}}, {Name: "Red", T: stamp(71), All: []api.Ctor{ctor("Red")}}},
		Subs: []env.Sub{{Name: "M", X: v("M0")}, {Name: "M", S: structure(), X: v("M")}, {Name: "E", X: v("E")}},
		Vals: []env.Val{{Name: "Val", S: api.Scheme{T: integer()}, X: v("x")}},
	}
	for _, d := range world() {
		if d.at != "" {
			continue
		}
		out := d.out()
		if outs[d.stamp] != "" {
			out = outs[d.stamp]
		}
		for n, c := range d.ctors {
			e.Cons = append(e.Cons, env.Con{Name: c.Name, T: stamp(d.stamp), Args: c.Args, N: n, All: d.ctors, X: v(names.Con(c.Name)), Out: v(out)})
		}
	}
	return e
}

// surroundings: the numbers and names with which the kernel takes the terms of the world.
func surroundings(outs map[int]string) ([]int, []kernel.Bind) {
	var vars []int
	var l []kernel.Bind
	for _, d := range world() {
		vars = append(vars, d.stamp)
		sum, err := trans.Sum(d.ctors)
		if err != api.OK {
			panic("no sum")
		}
		out := d.out()
		if outs[d.stamp] != "" {
			out = outs[d.stamp]
		}
		if d.at == "" {
			l = append(l, kernel.Bind{Name: out, T: api.TT{Kind: api.GFn, Kids: []api.TT{{Kind: api.GVar, N: d.stamp}, sum}}})
		}
	}
	m, err := trans.Str(structure())
	if err != api.OK {
		panic("no structure")
	}
	return vars, append(l, kernel.Bind{Name: "M", T: m})
}

// of: the datatype with a stamp.
func of(stamp int) data {
	l := world()
	return l[slices.IndexFunc(l, func(d data) bool { return d.stamp == stamp })]
}

// maker: makes things by chance.
type maker struct {
	*rand.Rand
	names int // how many names were bound
}

func newMaker(seed int64) *maker { return &maker{Rand: rand.New(rand.NewSource(seed))} }

func chosen[T any](m *maker, l ...T) T { return l[m.Intn(len(l))] }

// typeOf: a closed type of the world.
func (m *maker) typeOf(depth int) api.Type {
	if depth <= 1 || m.Intn(3) == 0 {
		l := []api.Type{integer(), boolean(), unit()}
		for _, d := range world() {
			l = append(l, stamp(d.stamp))
		}
		return chosen(m, l...)
	}
	if m.Intn(6) == 0 {
		return fn(m.typeOf(depth-1), m.typeOf(depth-1))
	}
	return pair(m.typeOf(depth-1), m.typeOf(depth-1))
}

// plain: a closed type of the world without functions.
func (m *maker) plain(depth int) api.Type {
	if depth <= 1 || m.Intn(3) == 0 {
		return chosen(m, integer(), boolean(), unit(), stamp(1), stamp(2), stamp(3), stamp(4), stamp(5), stamp(6), stamp(7), stamp(9))
	}
	return pair(m.plain(depth-1), m.plain(depth-1))
}

// name: a name that was not bound.
func (m *maker) name() api.Pat {
	m.names++
	return name([]string{"x", "y", "z"}[m.names%3] + strconv.Itoa(m.names/3))
}

// patOf: a pattern of a type.
func (m *maker) patOf(t api.Type, depth int) api.Pat {
	switch m.Intn(7) {
	case 0:
		return anything()
	case 1:
		return m.name()
	}
	if depth <= 1 {
		return chosen(m, anything(), m.name())
	}
	switch t.Kind {
	case api.TInt:
		return number(int64(m.Intn(3)))
	case api.TBool:
		return chosen(m, truth(), untruth())
	case api.TUnit:
		return nothing()
	case api.TPair:
		return two(m.patOf(t.Kids[0], depth-1), m.patOf(t.Kids[1], depth-1))
	case api.TStamp:
		d := of(t.N)
		return m.conOf(d, chosen(m, d.ctors...), depth)
	}
	return chosen(m, anything(), m.name())
}

func (m *maker) conOf(d data, c api.Ctor, depth int) api.Pat {
	p := con(d.at + c.Name)
	for _, arg := range c.Args {
		p.Kids = append(p.Kids, m.patOf(arg, depth-1))
	}
	return p
}

// valueOf: a plain value of a type of the world; small ones, if depth is used up. Nothing that keeps a function is made.
func (m *maker) valueOf(t api.Type, depth int) api.Value {
	switch t.Kind {
	case api.TInt:
		return vint(int64(m.Intn(4)))
	case api.TBool:
		return vbool(int64(m.Intn(2)))
	case api.TUnit:
		return vunit()
	case api.TPair:
		return vpair(m.valueOf(t.Kids[0], depth-1), m.valueOf(t.Kids[1], depth-1))
	case api.TStamp:
		return m.madeOf(of(t.N), depth)
	}
	panic("no plain value")
}

func (m *maker) madeOf(d data, depth int) api.Value {
	c := chosen(m, d.ctors...)
	if depth <= 1 {
		// What has no datatype in it: of each there is one.
		c = map[int]api.Ctor{1: d.ctors[0], 2: d.ctors[len(d.ctors)-1], 5: d.ctors[len(d.ctors)-1], 3: d.ctors[0], 4: d.ctors[0], 6: d.ctors[1%len(d.ctors)], 7: d.ctors[1%len(d.ctors)], 9: d.ctors[0]}[d.stamp]
	}
	if c.Name == "Keep" {
		c = ctor("None")
	}
	out := vcon(c.Name)
	for _, arg := range c.Args {
		out.Kids = append(out.Kids, m.valueOf(arg, depth-1))
	}
	return out
}

// like: a value of a type that a pattern fits, but that here and there it may be another one.
func (m *maker) like(p api.Pat, t api.Type, depth int) api.Value {
	keeps := p.Kind == api.PCon && p.Path[len(p.Path)-1] == "Keep"
	if m.Intn(7) == 0 || p.Kind == api.PAny || p.Kind == api.PVar || keeps {
		return m.valueOf(t, depth)
	}
	switch p.Kind {
	case api.PInt:
		return vint(p.N)
	case api.PTrue:
		return vbool(1)
	case api.PFalse:
		return vbool(0)
	case api.PPair:
		return vpair(m.like(p.Kids[0], t.Kids[0], depth-1), m.like(p.Kids[1], t.Kids[1], depth-1))
	case api.PCon:
		out := vcon(p.Path[len(p.Path)-1])
		for _, c := range of(t.N).ctors {
			if c.Name == out.Name && len(c.Args) > 0 {
				out.Kids = []api.Value{m.like(p.Kids[0], c.Args[0], depth-1)}
			}
		}
		return out
	}
	return vunit()
}
