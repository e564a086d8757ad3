package core_test

import (
	"cmp"
	"reflect"
	"slices"
	"testing"

	"wafer/api"
	"wafer/core"
	"wafer/env"
)

// roomy: the same plain data in new memory, with spare room behind each list, in which something stands.
func roomy[T any](x T) T {
	y := reflect.New(reflect.TypeOf(x)).Elem()
	y.Set(reflect.ValueOf(x))
	roomIn(y)
	return y.Interface().(T)
}

func roomIn(v reflect.Value) {
	switch v.Kind() {
	case reflect.Struct:
		for i := range v.NumField() {
			roomIn(v.Field(i))
		}
	case reflect.Slice:
		l := reflect.MakeSlice(v.Type(), v.Len()+2, v.Len()+2)
		reflect.Copy(l, v)
		for i := range v.Len() {
			roomIn(l.Index(i))
		}
		mark(l.Index(v.Len()))
		mark(l.Index(v.Len() + 1))
		v.Set(l.Slice(0, v.Len()))
	}
}

// mark: writes something into a thing, so that it is seen that it was there.
func mark(v reflect.Value) {
	switch v.Kind() {
	case reflect.Int, reflect.Int64:
		v.SetInt(7777)
	case reflect.String:
		v.SetString("spare")
	case reflect.Struct:
		for i := range v.NumField() {
			mark(v.Field(i))
		}
	}
}

// withRoom: plain data as a text, with what stands in its spare room.
func withRoom(x any) string {
	var text func(v reflect.Value) string
	text = func(v reflect.Value) string {
		out := "("
		switch v.Kind() {
		case reflect.Struct:
			for i := range v.NumField() {
				out += text(v.Field(i))
			}
		case reflect.Slice:
			for i := range v.Cap() {
				out += text(v.Slice(0, v.Cap()).Index(i))
			}
		default:
			out += tell(v.Interface())
		}
		return out + ")"
	}
	return text(reflect.ValueOf(x))
}

// scribble: writes into all lists of an answer, and into their spare room.
func scribble(v reflect.Value) {
	switch v.Kind() {
	case reflect.Struct:
		for i := range v.NumField() {
			scribble(v.Field(i))
		}
	case reflect.Slice:
		all := v.Slice(0, v.Cap())
		for i := range all.Len() {
			scribble(all.Index(i))
			all.Index(i).Set(reflect.Zero(v.Type().Elem()))
			mark(all.Index(i))
		}
	}
}

// piece: the memory of a list, with its spare room.
type piece struct{ from, to uintptr }

// pieces: those of all lists in plain data.
func pieces(x any) []piece {
	var l []piece
	var look func(v reflect.Value)
	look = func(v reflect.Value) {
		switch v.Kind() {
		case reflect.Struct:
			for i := range v.NumField() {
				look(v.Field(i))
			}
		case reflect.Slice:
			if v.Cap() > 0 {
				l = append(l, piece{v.Pointer(), v.Pointer() + uintptr(v.Cap())*v.Type().Elem().Size()})
			}
			for i := range v.Len() {
				look(v.Index(i))
			}
		}
	}
	look(reflect.ValueOf(x))
	return l
}

// answers: all that the calls hand out.
type answers struct {
	S, Own   api.Scheme
	X, Made  api.TM
	Code     api.Errno
	OwnCode  api.Errno
	Text     string
	TextCode api.Errno
}

// given: all that the calls are handed.
type given struct {
	E env.Env
	D api.Dec
	X api.Exp
}

func (g given) asked() answers {
	var a answers
	a.S, a.X, a.Code = core.Dec(g.E, g.D)
	a.Own, a.Made, a.OwnCode = core.Exp(g.E, g.X)
	a.Text, a.TextCode = core.Type(g.E, g.X)
	core.Value(g.X)
	return a
}

// apart: no two lists share memory, of answers or of what was given.
func apart(t *testing.T, seed int64, things ...any) {
	t.Helper()
	var all []piece
	for _, x := range things {
		all = append(all, pieces(x)...)
	}
	slices.SortFunc(all, func(p, q piece) int { return cmp.Compare(p.from, q.from) })
	for i := 1; i < len(all); i++ {
		if all[i].from < all[i-1].to {
			t.Fatalf("%d: two lists share memory", seed)
		}
	}
}

// TestMemory: what is handed in stays as it was, its spare room too; what is handed out is new memory, and no two lists of it share any.
func TestMemory(t *testing.T) {
	t.Parallel()
	newMaker := makers()
	errors, open := 0, 0
	for seed := range int64(300) {
		m := newMaker(seed)
		g := given{E: place(), D: m.someDec(4)}
		g.X = m.someDec(3).Exps[0]
		// Terms and types of entries may have lists of their own.
		g.E.Cons[1].X = api.TM{Kind: api.XInst, Types: []api.TT{{Kind: api.GRec, Labels: []string{"a"}, Kids: []api.TT{{Kind: api.GInt}}}}, Kids: []api.TM{v("Nil()")}}
		g.E.Vals[2].X = api.TM{Kind: api.XPair, Kids: []api.TM{v("one"), v("two")}}
		g.E.Vals[3].S.T = pair(boolean(), integer())
		g = roomy(g)
		ahead := withRoom(g)
		first := g.asked()
		if first.Code != api.OK {
			errors++
		}
		if first.S.Gens > 0 {
			open++
		}
		want := tell(first)
		again := g.asked()
		if tell(again) != want {
			t.Fatalf("%d: the same calls answer otherwise: %s, was %s", seed, brief(tell(again)), brief(want))
		}
		if withRoom(g) != ahead {
			t.Fatalf("%d: what was handed in has changed", seed)
		}
		apart(t, seed, g, first, again)
		scribble(reflect.ValueOf(&again).Elem())
		if tell(first) != want || withRoom(g) != ahead {
			t.Fatalf("%d: what was written into an answer is seen", seed)
		}
		// What is written into what was handed in later is not seen, either.
		scribble(reflect.ValueOf(&g).Elem())
		if tell(first) != want {
			t.Fatalf("%d: what was handed in is kept", seed)
		}
	}
	if errors < 50 || open < 100 {
		t.Errorf("%d errors, %d that are open: the test does not try much", errors, open)
	}
}
