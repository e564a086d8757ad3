package sigs_test

import (
	"cmp"
	"reflect"
	"slices"
	"testing"

	"wafer/api"
	"wafer/env"
	"wafer/sigs"
)

// roomy: the same plain data in new memory, with spare room behind each list, in which something stands.
func roomy[T any](x T) T {
	y := reflect.New(reflect.TypeOf(x)).Elem()
	y.Set(reflect.ValueOf(x))
	roomIn(y)
	return y.Interface().(T)
}

func roomIn(v reflect.Value) {
	switch v.Kind() {
	case reflect.Struct:
		for i := range v.NumField() {
			roomIn(v.Field(i))
		}
	case reflect.Slice:
		l := reflect.MakeSlice(v.Type(), v.Len()+2, v.Len()+2)
		reflect.Copy(l, v)
		for i := range v.Len() {
			roomIn(l.Index(i))
		}
		mark(l.Index(v.Len()))
		mark(l.Index(v.Len() + 1))
		v.Set(l.Slice(0, v.Len()))
	}
}

// mark: writes something into a thing, so that it is seen that it was there.
func mark(v reflect.Value) {
	switch v.Kind() {
	case reflect.Int, reflect.Int64:
		v.SetInt(7777)
	case reflect.String:
		v.SetString("spare")
	case reflect.Struct:
		for i := range v.NumField() {
			mark(v.Field(i))
		}
	}
}

// withRoom: plain data as a text, with what stands in its spare room.
func withRoom(x any) string {
	var text func(v reflect.Value) string
	text = func(v reflect.Value) string {
		out := "("
		switch v.Kind() {
		case reflect.Struct:
			for i := range v.NumField() {
				out += text(v.Field(i))
			}
		case reflect.Slice:
			for i := range v.Cap() {
				out += text(v.Slice(0, v.Cap()).Index(i))
			}
		default:
			out += tell(v.Interface())
		}
		return out + ")"
	}
	return text(reflect.ValueOf(x))
}

// scribble: writes into all lists of an answer, and into their spare room.
func scribble(v reflect.Value) {
	switch v.Kind() {
	case reflect.Struct:
		for i := range v.NumField() {
			scribble(v.Field(i))
		}
	case reflect.Slice:
		all := v.Slice(0, v.Cap())
		for i := range all.Len() {
			scribble(all.Index(i))
			all.Index(i).Set(reflect.Zero(v.Type().Elem()))
			mark(all.Index(i))
		}
	}
}

// piece: the memory of a list, with its spare room.
type piece struct{ from, to uintptr }

// pieces: those of all lists in plain data.
func pieces(x any) []piece {
	var l []piece
	var look func(v reflect.Value)
	look = func(v reflect.Value) {
		switch v.Kind() {
		case reflect.Struct:
			for i := range v.NumField() {
				look(v.Field(i))
			}
		case reflect.Slice:
			if v.Cap() > 0 {
				l = append(l, piece{v.Pointer(), v.Pointer() + uintptr(v.Cap())*v.Type().Elem().Size()})
			}
			for i := range v.Len() {
				look(v.Index(i))
			}
		}
	}
	look(reflect.ValueOf(x))
	return l
}

// given: all that the calls are handed.
type given struct {
	E    env.Env
	G    api.Sig
	L    []api.Con
	A    api.Abs
	Path []string
	By   api.Type
}

// answers: all that the calls hand out.
type answers struct {
	Elab, Where, Fresh     api.Abs
	Data                   api.TyMember
	Next, End              int
	Code, OfWhere, OfDatas api.Errno
}

func (g given) asked() answers {
	var a answers
	a.Elab, a.Next, a.Code = sigs.Elab(g.E, g.G, 50)
	a.Data, a.OfDatas = sigs.Data(g.E, "d", g.L, 60)
	a.Where, a.OfWhere = sigs.Where(g.A, g.Path, g.By)
	a.Fresh, a.End = sigs.Fresh(g.A, 70)
	return a
}

// apart: no two lists share memory, of answers or of what was given.
func apart(t *testing.T, seed int64, things ...any) {
	t.Helper()
	var all []piece
	for _, x := range things {
		all = append(all, pieces(x)...)
	}
	slices.SortFunc(all, func(p, q piece) int { return cmp.Compare(p.from, q.from) })
	for i := 1; i < len(all); i++ {
		if all[i].from < all[i-1].to {
			t.Fatalf("%d: two lists share memory", seed)
		}
	}
}

// TestMemory: what is handed in stays as it was, its spare room too; what is handed out is new memory, and no two lists of it share any.
func TestMemory(t *testing.T) {
	t.Parallel()
	right, filled, errors := 0, 0, 0
	for seed := range int64(500) {
		m := newMaker(seed)
		g := given{E: world(), A: m.abs(3), By: fn(stamp(30), pair(integer(), stamp(31)))}
		g.G = m.sig(g.E, 4)
		g.Path = m.ty(env.Env{Subs: []env.Sub{{Name: "M", S: g.A.S}}}, 1, false).Path
		if len(g.Path) > 0 {
			g.Path = g.Path[1:]
		}
		for range 3 {
			g.L = append(g.L, con("A", m.ty(g.E, 2, false)))
		}
		g = roomy(g)
		ahead := withRoom(g)
		first := g.asked()
		want := tell(first)
		again := g.asked()
		if tell(again) != want {
			t.Fatalf("%d: the same calls answer otherwise", seed)
		}
		if withRoom(g) != ahead {
			t.Fatalf("%d: what was handed in has changed", seed)
		}
		apart(t, seed, g, first, again)
		scribble(reflect.ValueOf(&again).Elem())
		if tell(first) != want || withRoom(g) != ahead {
			t.Fatalf("%d: what was written into an answer is seen", seed)
		}
		// What is written into what was handed in later is not seen, either.
		scribble(reflect.ValueOf(&g).Elem())
		if tell(first) != want {
			t.Fatalf("%d: what was handed in is kept", seed)
		}
		if first.Code == api.OK {
			right++
		} else {
			errors++
		}
		if first.OfWhere == api.OK {
			filled++
		}
	}
	if right < 100 || filled < 50 || errors < 50 {
		t.Errorf("%d are right, %d filled, %d errors: the test does not try much", right, filled, errors)
	}
}

// TestMemoryShared: no two lists of an answer share memory, though what is put in stands at several places, and lists of arguments are shared.
func TestMemoryShared(t *testing.T) {
	part := pair(stamp(1), fn(stamp(2), integer()))
	ctors := []api.Ctor{ctor("A", part), ctor("B", part)}
	s := str(typ("t", stamp(1)), typ("u", part), typ("d", stamp(3), ctors...), val("x", part), val("y", stamp(1)), val("z", stamp(1)))
	a := api.Abs{Stamps: ints(1, 2, 3), S: str(typ("t", stamp(1)), api.SubMember{Name: "M", S: s}, api.SubMember{Name: "N", S: s})}
	a.S.Sigs = []api.SigMember{{Name: "S", A: api.Abs{Stamps: a.Stamps, S: s}}}
	fresh, _ := sigs.Fresh(a, 8)
	apart(t, 1, a.Stamps, fresh)
	a.S.Sigs = nil
	by := fn(stamp(9), pair(integer(), integer()))
	filled, err := sigs.Where(a, []string{"t"}, by)
	if err != api.OK {
		t.Fatal(err)
	}
	apart(t, 2, by, filled)
	e := env.Env{Typs: []env.Typ{{Name: "t", T: part}, {Name: "u", T: part}}, Subs: []env.Sub{{Name: "M", S: s}}, Sigs: []env.Sig{{Name: "S", A: a}}}
	ahead := withRoom(e)
	g := sig("sig structure A : S where type t = M.u structure B : S where type t = M.u type v = u type w = v val x : v * w data d = C of v | D of w end")
	one, _, err := sigs.Elab(e, g, 100)
	if err != api.OK {
		t.Fatal(err)
	}
	apart(t, 3, part, one)
	m, err := sigs.Data(e, "d", []api.Con{con("A", ty("t * t")), con("B", ty("t"))}, 5)
	if err != api.OK {
		t.Fatal(err)
	}
	apart(t, 4, part, m)
	scribble(reflect.ValueOf(&one).Elem())
	if withRoom(e) != ahead {
		t.Error("what was handed in has changed")
	}
}
