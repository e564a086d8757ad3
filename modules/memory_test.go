package modules_test

import (
	"cmp"
	"fmt"
	"reflect"
	"slices"
	"testing"

	"wafer/api"
	"wafer/env"
	"wafer/modules"
	"wafer/sigs"
)

// roomy: the same plain data in new memory, with spare room behind each list, in which something stands.
func roomy[T any](x T) T {
	y := reflect.New(reflect.TypeOf(x)).Elem()
	y.Set(reflect.ValueOf(x))
	roomIn(y)
	return y.Interface().(T)
}

func roomIn(v reflect.Value) {
	switch v.Kind() {
	case reflect.Struct:
		for i := range v.NumField() {
			roomIn(v.Field(i))
		}
	case reflect.Slice:
		l := reflect.MakeSlice(v.Type(), v.Len()+2, v.Len()+2)
		reflect.Copy(l, v)
		for i := range v.Len() {
			roomIn(l.Index(i))
		}
		mark(l.Index(v.Len()))
		mark(l.Index(v.Len() + 1))
		v.Set(l.Slice(0, v.Len()))
	}
}

// mark: writes something into a thing, so that it is seen that it was there.
func mark(v reflect.Value) {
	switch v.Kind() {
	case reflect.Int, reflect.Int64:
		v.SetInt(7777)
	case reflect.String:
		v.SetString("spare")
	case reflect.Struct:
		for i := range v.NumField() {
			mark(v.Field(i))
		}
	}
}

// scribble: writes into all lists of an answer, and into their spare room.
func scribble(x any) { scribbleIn(reflect.ValueOf(x)) }

func scribbleIn(v reflect.Value) {
	switch v.Kind() {
	case reflect.Struct:
		for i := range v.NumField() {
			scribbleIn(v.Field(i))
		}
	case reflect.Slice:
		all := v.Slice(0, v.Cap())
		for i := range all.Len() {
			scribbleIn(all.Index(i))
			all.Index(i).Set(reflect.Zero(v.Type().Elem()))
			mark(all.Index(i))
		}
	}
}

// piece: the memory of a list, with its spare room.
type piece struct{ from, to uintptr }

// pieces: those of all lists in plain data.
func pieces(x any) []piece {
	var l []piece
	var look func(v reflect.Value)
	look = func(v reflect.Value) {
		switch v.Kind() {
		case reflect.Struct:
			for i := range v.NumField() {
				look(v.Field(i))
			}
		case reflect.Interface:
			look(v.Elem())
		case reflect.Slice:
			if v.Cap() > 0 {
				l = append(l, piece{v.Pointer(), v.Pointer() + uintptr(v.Cap())*v.Type().Elem().Size()})
			}
			for i := range v.Len() {
				look(v.Index(i))
			}
		}
	}
	look(reflect.ValueOf(x))
	slices.SortFunc(l, func(p, q piece) int { return cmp.Compare(p.from, q.from) })
	return l
}

// alone: no two lists of a thing share memory.
func alone(t *testing.T, what string, x any) {
	t.Helper()
	l := pieces(x)
	for i := 1; i < len(l); i++ {
		if l[i].from < l[i-1].to {
			t.Fatalf("%s: two lists share memory", brief(what))
		}
	}
}

// apart: no list of one thing shares memory with one of another. (Each may share within itself.)
func apart(t *testing.T, what string, things ...any) {
	t.Helper()
	type owned struct {
		piece
		by int
	}
	var all []owned
	for by, x := range things {
		for _, p := range pieces(x) {
			all = append(all, owned{p, by})
		}
	}
	slices.SortFunc(all, func(p, q owned) int { return cmp.Compare(p.from, q.from) })
	// The one that ends last so far, of those of each thing.
	ends := map[int]uintptr{}
	for _, p := range all {
		for by, end := range ends {
			if by != p.by && p.from < end {
				t.Fatalf("%s: lists of two things, %d and %d, share memory", brief(what), by, p.by)
			}
		}
		ends[p.by] = max(ends[p.by], p.to)
	}
}

// given: all that the calls are handed.
type given struct {
	E   env.Env
	L   []api.Dec
	M   api.Mod
	Arg modules.Made
	F   env.Fun
	A   api.Abs
	S   api.Str
	X   api.TM
}

// answers: all that the calls hand out.
type answers struct {
	Decs, Mod, Apply, Seal, Seen modules.Made
	Enter                        env.Env
	I                            int
	Codes                        []api.Errno
}

func (g given) asked() answers {
	var a answers
	var err [5]api.Errno
	a.Decs, a.I, err[0] = modules.Decs(g.E, g.L, 50)
	a.Mod, err[1] = modules.Mod(g.E, g.M, 50)
	a.Apply, err[2] = modules.Apply(g.F, g.Arg)
	a.Seal, err[3] = modules.Seal(g.Arg, g.A, true)
	a.Seen, err[4] = modules.Seal(g.Arg, g.A, false)
	a.Enter = modules.Enter(g.E, "X", g.S, g.X)
	a.Codes = err[:]
	return a
}

// someGiven: what makes most of the calls answer something.
func (m *maker) someGiven() given {
	p := place{e: m.tangled(world()), next: 50}
	g := given{E: p.e, L: m.program(p, 4, 2), M: m.mod(p, 2), S: m.some(p.e), X: m.term(3)}
	g.Arg, _ = modules.Mod(p.e, m.mod(p, 2), 60)
	if l := knownIn(p.e).funs; m.Intn(2) == 0 {
		g.F, _ = p.e.Fun(chosen(m, l))
		arg := m.implement(place{e: p.e, next: 60}, g.F.F.Arg)
		g.Arg, _ = modules.Mod(p.e, arg, 60)
	}
	g.A, _, _ = sigs.Elab(p.e, m.sig(p.e, g.Arg.A.S, 2), 90)
	return g
}

// term: any term, nested at most so deep, with types and labels in it.
func (m *maker) term(depth int) api.TM {
	x := v(m.high())
	for depth > 1 && m.Intn(4) > 0 {
		x.Kids = append(x.Kids, m.term(depth-1))
		x.Labels = append(x.Labels, m.low())
		x.Types = append(x.Types, api.TT{Kind: api.GRec, Labels: []string{"x", "y"}, Kids: []api.TT{{Kind: api.GInt}, {Kind: api.GFn, Kids: []api.TT{{}, {}}}}})
	}
	return x
}

// tangled: an environment with terms of which some are no names.
func (m *maker) tangled(e env.Env) env.Env {
	e = roomy(e)
	for i := range e.Subs {
		if m.Intn(2) == 0 {
			e.Subs[i].X = m.term(3)
		}
	}
	for i := range e.Vals {
		if m.Intn(2) == 0 {
			e.Vals[i].X = m.term(3)
		}
	}
	for i := range e.Cons {
		if m.Intn(2) == 0 {
			e.Cons[i].X, e.Cons[i].Out = m.term(2), m.term(2)
		}
	}
	return e
}

// TestMemory: what is handed in stays as it was, its spare room too; what is handed out is new memory, apart from it and from other answers. No two lists of what is told share memory (those of a term may).
func TestMemory(t *testing.T) {
	t.Parallel()
	count := tally{}
	for seed := range int64(120) {
		m := newMaker(seed)
		g := roomy(m.someGiven())
		ahead := tellRoom(g)
		first := g.asked()
		want := tell(first)
		again := g.asked()
		if tell(again) != want {
			t.Fatalf("%d: the same calls answer otherwise", seed)
		}
		if tellRoom(g) != ahead {
			t.Fatalf("%d: what was handed in has changed", seed)
		}
		what := fmt.Sprint(seed)
		apart(t, what, first.Decs, first.Mod, first.Apply, first.Seal, first.Seen, first.Enter, again, g)
		for _, a := range []modules.Made{first.Decs, first.Mod, first.Apply, first.Seal, first.Seen} {
			alone(t, what, a.A)
			apart(t, what, a.A, a.X)
		}
		alone(t, what, first.Enter)
		scribble(again)
		if tell(first) != want || tellRoom(g) != ahead {
			t.Fatalf("%d: what was written into an answer is seen", seed)
		}
		// What is written into what was handed in later is not seen, either.
		scribble(g)
		if tell(first) != want {
			t.Fatalf("%d: what was handed in is kept", seed)
		}
		for i, err := range first.Codes {
			count[fmt.Sprint(i, " ", code(err))]++
		}
	}
	count.enough(t, 20, "0 OK", "1 OK", "2 OK", "3 OK", "4 OK")
}

// TestMemoryShared: so also where lists of what is handed in are shared, and where what is told stands at several places.
func TestMemoryShared(t *testing.T) {
	part := pair(stamp(1), fn(stamp(2), integer()))
	ctors := []api.Ctor{ctor("A", part), ctor("B", part)}
	s := str(typ("t", stamp(1)), typ("u", part), typ("d", stamp(3), ctors...), val("x", part), val("y", stamp(1)))
	all := str(api.SubMember{Name: "M", S: s}, api.SubMember{Name: "N", S: s}, typ("t", part))
	x := v("X")
	x = api.TM{Kind: api.XPair, Kids: []api.TM{x, x}, Types: []api.TT{{}, {}}}
	x = api.TM{Kind: api.XPair, Kids: []api.TM{x, x}, Types: []api.TT{{Kids: x.Types}, {Kids: x.Types}}}
	e := env.Env{
		Vals: []env.Val{{Name: "x", S: s.Vals[0].S, X: x}, {Name: "y", S: s.Vals[0].S, X: x}},
		Typs: []env.Typ{{Name: "t", T: part}, {Name: "u", T: part, Ctors: ctors}},
		Cons: []env.Con{{Name: "A", T: stamp(3), Args: ctors[0].Args, All: ctors, X: x, Out: x}},
		Subs: []env.Sub{{Name: "M", S: all, X: x}, {Name: "N", S: all, X: x}},
		Funs: []env.Fun{{Name: "F", F: api.Fun{Stamps: ints(7), Arg: str(typ("t", stamp(7))), Res: api.Abs{Stamps: ints(8, 9), S: all}}, X: x}},
		Sigs: []env.Sig{{Name: "S", A: abs(ints(7, 8), typ("t", stamp(7)), sub("M", typ("t", stamp(8))))}},
	}
	entered := modules.Enter(e, "Z", all, x)
	alone(t, "Enter", entered.Typs)
	alone(t, "Enter", entered.Sigs)
	apart(t, "Enter", entered, []any{e, all, x})
	l := unit("structure A = M structure B = N structure C = F(M) structure D = F(N) structure E = M :> S structure G = M : S type t2 = t type u2 = u val x2 = x val y2 = x signature T = S signature U = S")
	m, i, err := modules.Decs(e, l, 50)
	if err != api.OK {
		t.Fatalf("%s at %d", code(err), i)
	}
	alone(t, "Decs", m.A)
	apart(t, "Decs", m.A, m.X, e)
	arg := modules.Made{A: api.Abs{Stamps: ints(1, 2), S: all}, X: x, Next: 60}
	for _, hide := range []bool{false, true} {
		is := must(modules.Seal(arg, e.Sigs[0].A, hide))
		alone(t, "Seal", is.A)
		apart(t, "Seal", is.A, is.X, []any{arg, e})
	}
	is := must(modules.Apply(e.Funs[0], arg))
	alone(t, "Apply", is.A)
	apart(t, "Apply", is.A, is.X, []any{arg, e})
}
