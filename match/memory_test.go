package match_test

import (
	"cmp"
	"fmt"
	"reflect"
	"slices"
	"testing"

	"wafer/api"
	"wafer/match"
)

// roomy: the same plain data in new memory, with spare room behind each list, in which something stands.
func roomy[T any](x T) T {
	y := reflect.New(reflect.TypeOf(x)).Elem()
	y.Set(reflect.ValueOf(x))
	roomIn(y)
	return y.Interface().(T)
}

func roomIn(v reflect.Value) {
	switch v.Kind() {
	case reflect.Struct:
		for i := range v.NumField() {
			roomIn(v.Field(i))
		}
	case reflect.Slice:
		l := reflect.MakeSlice(v.Type(), v.Len()+2, v.Len()+2)
		reflect.Copy(l, v)
		for i := range v.Len() {
			roomIn(l.Index(i))
		}
		mark(l.Index(v.Len()))
		mark(l.Index(v.Len() + 1))
		v.Set(l.Slice(0, v.Len()))
	}
}

// mark: writes something into a thing, so that it is seen that it was there.
func mark(v reflect.Value) {
	switch v.Kind() {
	case reflect.Int, reflect.Int64:
		v.SetInt(7777)
	case reflect.String:
		v.SetString("spare")
	case reflect.Struct:
		for i := range v.NumField() {
			mark(v.Field(i))
		}
	}
}

// scribble: writes into all lists of an answer, and into their spare room.
func scribble(x any) { scribbleIn(reflect.ValueOf(x)) }

func scribbleIn(v reflect.Value) {
	switch v.Kind() {
	case reflect.Struct:
		for i := range v.NumField() {
			scribbleIn(v.Field(i))
		}
	case reflect.Slice:
		all := v.Slice(0, v.Cap())
		for i := range all.Len() {
			scribbleIn(all.Index(i))
			all.Index(i).Set(reflect.Zero(v.Type().Elem()))
			mark(all.Index(i))
		}
	}
}

// piece: the memory of a list, with its spare room.
type piece struct{ from, to uintptr }

// pieces: those of all lists in plain data.
func pieces(x any) []piece {
	var l []piece
	var look func(v reflect.Value)
	look = func(v reflect.Value) {
		switch v.Kind() {
		case reflect.Struct:
			for i := range v.NumField() {
				look(v.Field(i))
			}
		case reflect.Interface:
			look(v.Elem())
		case reflect.Slice:
			if v.Cap() > 0 {
				l = append(l, piece{v.Pointer(), v.Pointer() + uintptr(v.Cap())*v.Type().Elem().Size()})
			}
			for i := range v.Len() {
				look(v.Index(i))
			}
		}
	}
	look(reflect.ValueOf(x))
	return l
}

// apart: no two lists of an answer share memory, nor one with an argument's. (The arguments may share theirs with one another.)
func apart(t *testing.T, what string, answer any, arguments ...any) {
	t.Helper()
	own := pieces(answer)
	slices.SortFunc(own, func(p, q piece) int { return cmp.Compare(p.from, q.from) })
	for i := 1; i < len(own); i++ {
		if own[i].from < own[i-1].to {
			t.Fatalf("%s: two lists of the answer share memory", brief(what))
		}
	}
	for _, a := range arguments {
		for _, p := range pieces(a) {
			// The first one that ends behind where this one begins: those ahead of it do not reach it.
			i, _ := slices.BinarySearchFunc(own, p.from, func(q piece, from uintptr) int { return cmp.Compare(q.to, from+1) })
			if i < len(own) && own[i].from < p.to {
				t.Fatalf("%s: a list of the answer shares memory with an argument's", brief(what))
			}
		}
	}
}

// given: all that the calls are handed.
type given struct {
	Has, S api.Str
	A      api.Abs
	Stamps []int
	L      []api.Type
	X      api.TM
}

// answers: all that the calls hand out.
type answers struct {
	Types, Match []api.Type
	Put          api.Str
	PutAbs       api.Abs
	Coerce       api.TM
}

func (g given) asked() answers {
	var a answers
	a.Types, _ = match.Types(g.Has, g.A.S, g.Stamps)
	a.Match, _ = match.Match(g.Has, g.A)
	a.Put, _ = match.Put(g.S, g.Stamps, g.L)
	a.PutAbs, _ = match.PutAbs(g.A, g.Stamps, g.L)
	a.Coerce, _ = match.Coerce(g.Has, g.S, g.X)
	match.Has(g.Has, g.S)
	return a
}

// term: any term, nested at most so deep, with types and labels in it.
func (m maker) term(depth int) api.TM {
	x := variable(m.high())
	for depth > 1 && m.Intn(4) > 0 {
		x.Kids = append(x.Kids, m.term(depth-1))
		x.Labels = append(x.Labels, m.low())
		x.Types = append(x.Types, api.TT{Kind: api.GRec, Labels: []string{"x", "y"}, Kids: []api.TT{{Kind: api.GInt}, {Kind: api.GFn, Kids: []api.TT{{}, {}}}}})
	}
	return x
}

// TestMemory: what is handed in stays as it was, its spare room too; what is handed out is new memory, and no two lists of it share any.
func TestMemory(t *testing.T) {
	t.Parallel()
	matched, put, coerced := 0, 0, 0
	for seed := range int64(1000) {
		m := newMaker(seed)
		has, a, l := m.two()
		s, _ := plainPut(a.S, a.Stamps, l)
		g := roomy(given{has, s, a, a.Stamps, l, m.term(3)})
		if m.Intn(2) == 0 {
			g = roomy(given{m.more(s), s, m.abs(3), m.stamps(), nil, m.term(3)})
			g.L = roomy(m.types(len(g.Stamps), 3))
		}
		ahead := tellRoom(g)
		first := g.asked()
		want := tell(first)
		again := g.asked()
		if tell(again) != want {
			t.Fatalf("%d: the same calls answer otherwise", seed)
		}
		if tellRoom(g) != ahead {
			t.Fatalf("%d: what was handed in has changed", seed)
		}
		apart(t, fmt.Sprint(seed), []any{first.Types, first.Match, first.Put, first.PutAbs, first.Coerce}, again, g)
		scribble(again)
		if tell(first) != want || tellRoom(g) != ahead {
			t.Fatalf("%d: what was written into an answer is seen", seed)
		}
		// What is written into what was handed in later is not seen, either.
		scribble(g)
		if tell(first) != want {
			t.Fatalf("%d: what was handed in is kept", seed)
		}
		if len(first.Match) > 0 {
			matched++
		}
		if tell(first.Put) != tell(api.Str{}) {
			put++
		}
		if first.Coerce.Kind != 0 {
			coerced++
		}
	}
	if matched < 100 || put < 500 || coerced < 300 {
		t.Errorf("%d matched, %d put, %d coerced: the test does not try much", matched, put, coerced)
	}
}

// TestMemoryShared: no two lists of an answer share memory, though what is told or put in stands at several places, and lists of arguments are shared.
func TestMemoryShared(t *testing.T) {
	part := pair(stamp(1), fn(stamp(2), integer()))
	ctors := []api.Ctor{ctor("A", part), ctor("B", part)}
	s := str(typ("t", stamp(3), ctors...), typ("u", part), typ("v", part), val("x", part), val("y", part), val("z", stamp(4)), val("w", stamp(4)))
	all := str(api.SubMember{Name: "M", S: s}, api.SubMember{Name: "N", S: s}, typ("t", part), typ("u", part))
	asks := str(typ("t", stamp(7)), typ("u", stamp(8)))
	l, err := match.Types(all, asks, ints(7, 8, 7, 7))
	if err != api.OK {
		t.Fatal(err)
	}
	apart(t, "Types", l, all, asks)
	l, err = match.Match(all, api.Abs{Stamps: ints(7, 8, 7), S: asks})
	if err != api.OK {
		t.Fatal(err)
	}
	apart(t, "Match", l, all, asks)
	stamps := ints(5, 4)
	a := api.Abs{Stamps: stamps, S: all}
	a.S.Sigs = []api.SigMember{{Name: "S", A: api.Abs{Stamps: stamps, S: s}}, {Name: "T", A: api.Abs{Stamps: stamps, S: s}}}
	a.S.Funs = []api.FunMember{{Name: "F", F: api.Fun{Stamps: stamps, Arg: s, Res: api.Abs{Stamps: stamps, S: s}}}}
	by := list(pair(stamp(5), part), pair(stamp(9), part))
	for _, from := range [][]int{stamps, ints(1, 2), ints(4, 1)} {
		is, err := match.PutAbs(a, from, by)
		if err != api.OK {
			t.Fatal(err)
		}
		apart(t, "PutAbs", is, a, from, by)
		one, err := match.Put(a.S, from, by)
		if err != api.OK {
			t.Fatal(err)
		}
		apart(t, "Put", one, a, from, by)
	}
	scheme := api.Scheme{Gens: 1, T: fn(gen(0), gen(0))}
	has := str(api.ValMember{Name: "f", S: scheme}, api.ValMember{Name: "g", S: scheme}, val("x", part), typ("d", stamp(3), ctors...))
	want := str(val("f", fn(part, part)), val("g", fn(part, part)), val("x", part), typ("d", stamp(3), ctors...), typ("d", stamp(3)))
	x := variable("x")
	x = api.TM{Kind: api.XPair, Kids: []api.TM{x, x}, Types: []api.TT{{}, {}}}
	x = api.TM{Kind: api.XPair, Kids: []api.TM{x, x}, Types: []api.TT{{Kids: x.Types}, {Kids: x.Types}}}
	for _, h := range []api.Str{has, str(has.Vals[0], has.Vals[1], has.Vals[2], typ("d", stamp(3)))} {
		m, err := match.Coerce(h, want, x)
		if err != api.OK {
			t.Fatal(err)
		}
		apart(t, "Coerce", m, h, want, x)
	}
}
