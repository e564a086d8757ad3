package trans_test

import (
	"cmp"
	"fmt"
	"reflect"
	"slices"
	"testing"

	"wafer/api"
	"wafer/trans"
)

// roomy: the same plain data in new memory, with spare room behind each list, in which something stands.
func roomy[T any](x T) T {
	y := reflect.New(reflect.TypeOf(x)).Elem()
	y.Set(reflect.ValueOf(x))
	roomIn(y)
	return y.Interface().(T)
}

func roomIn(v reflect.Value) {
	switch v.Kind() {
	case reflect.Struct:
		for i := range v.NumField() {
			roomIn(v.Field(i))
		}
	case reflect.Slice:
		l := reflect.MakeSlice(v.Type(), v.Len()+2, v.Len()+2)
		reflect.Copy(l, v)
		for i := range v.Len() {
			roomIn(l.Index(i))
		}
		mark(l.Index(v.Len()))
		mark(l.Index(v.Len() + 1))
		v.Set(l.Slice(0, v.Len()))
	}
}

// mark: writes something into a thing, so that it is seen that it was there.
func mark(v reflect.Value) {
	switch v.Kind() {
	case reflect.Int:
		v.SetInt(7777)
	case reflect.String:
		v.SetString("spare")
	case reflect.Struct:
		for i := range v.NumField() {
			mark(v.Field(i))
		}
	}
}

// scribble: writes into all lists of an answer, and into their spare room.
func scribble(v reflect.Value) {
	switch v.Kind() {
	case reflect.Struct:
		for i := range v.NumField() {
			scribble(v.Field(i))
		}
	case reflect.Slice:
		all := v.Slice(0, v.Cap())
		for i := range all.Len() {
			scribble(all.Index(i))
			all.Index(i).Set(reflect.Zero(v.Type().Elem()))
			mark(all.Index(i))
		}
	}
}

// piece: the memory of a list, with its spare room.
type piece struct{ from, to uintptr }

// pieces: those of all lists in plain data.
func pieces(x any) []piece {
	var l []piece
	var look func(v reflect.Value)
	look = func(v reflect.Value) {
		switch v.Kind() {
		case reflect.Struct:
			for i := range v.NumField() {
				look(v.Field(i))
			}
		case reflect.Slice:
			if v.Cap() > 0 {
				l = append(l, piece{v.Pointer(), v.Pointer() + uintptr(v.Cap())*v.Type().Elem().Size()})
			}
			for i := range v.Len() {
				look(v.Index(i))
			}
		}
	}
	look(reflect.ValueOf(x))
	return l
}

// apart: no two lists of the answers share memory.
func apart(t *testing.T, what string, answers []api.TT) {
	t.Helper()
	own := pieces(answers)
	slices.SortFunc(own, func(p, q piece) int { return cmp.Compare(p.from, q.from) })
	for i := 1; i < len(own); i++ {
		if own[i].from < own[i-1].to {
			t.Fatalf("%s: two lists share memory", brief(what))
		}
	}
}

// given: what the eight calls are handed.
type given struct {
	t     api.Type
	s     api.Scheme
	c     api.Ctor
	ctors []api.Ctor
	a     api.Abs
	f     api.Fun
	stamp int
}

func (m maker) given() given {
	return given{t: m.typeOf(4, 0), s: m.scheme(), c: m.ctor(), ctors: m.ctors(), a: m.abs(3), f: m.functor(2), stamp: m.stampNumber()}
}

func (g given) roomy() given {
	return given{roomy(g.t), roomy(g.s), roomy(g.c), roomy(g.ctors), roomy(g.a), roomy(g.f), g.stamp}
}

func (g given) tell() string {
	return tellRoom(g.t) + tellRoom(g.s) + tellRoom(g.c) + tellRoom(g.ctors) + tellRoom(g.a) + tellRoom(g.f)
}

// answers: what the eight calls answer.
func (g given) answers() ([]api.TT, []api.Errno) {
	var l []api.TT
	var codes []api.Errno
	add := func(x api.TT, code api.Errno) { l, codes = append(l, x), append(codes, code) }
	add(trans.Type(g.t))
	add(trans.Scheme(g.s))
	add(trans.Sum(g.ctors))
	add(trans.Rep(g.stamp, g.ctors))
	add(trans.Con(g.stamp, g.c))
	add(trans.Str(g.a.S))
	add(trans.Abs(g.a))
	add(trans.Fun(g.f))
	return l, codes
}

// TestMemory: what is handed in is not changed, its spare room neither; what is handed out is new memory, whoever writes into it; asked again the same comes.
func TestMemory(t *testing.T) {
	for seed := range int64(2500) {
		g := newMaker(seed).given().roomy()
		ahead := g.tell()
		first, codes := g.answers()
		again, codesAgain := g.answers()
		told := tell(first)
		if tell(again) != told || tell(codesAgain) != tell(codes) {
			t.Fatalf("%d: asked again, others come", seed)
		}
		apart(t, fmt.Sprint(seed), slices.Concat(first, again))
		scribble(reflect.ValueOf(again))
		if tell(first) != told {
			t.Fatalf("%d: answers share memory", seed)
		}
		scribble(reflect.ValueOf(first))
		if g.tell() != ahead {
			t.Fatalf("%d: what was handed in has changed", seed)
		}
		for i, code := range codes {
			if code != api.OK && code != api.ErrArg && code != api.ErrTwice {
				t.Fatalf("%d: call %d: %v", seed, i, code)
			}
		}
	}
}

// TestMemoryShared: no two lists of an answer share memory, though they did in what was handed in.
func TestMemoryShared(t *testing.T) {
	part := pair(stamp(1), fn(stamp(2), unit()))
	l := ctors(ctor("A", part), ctor("B", part))
	s := str(typ("t", stamp(1), l...), val("x", part), poly("y", 1, pair(gen(0), part)), typ("w", part))
	twin := str(api.SubMember{Name: "M", S: s}, api.SubMember{Name: "N", S: s}, api.FunMember{Name: "F", F: api.Fun{Stamps: ints(1), Arg: s, Res: api.Abs{Stamps: ints(1), S: s}}}, api.SigMember{Name: "S", A: api.Abs{S: s}})
	g := given{t: pair(part, part), s: of(0, pair(part, part)), c: l[0], ctors: l, a: api.Abs{Stamps: ints(1), S: twin}, f: api.Fun{Stamps: ints(1), Arg: twin, Res: api.Abs{S: twin}}}
	ahead := g.tell()
	answers, codes := g.answers()
	if tell(codes) != tell(make([]api.Errno, 8)) {
		t.Fatalf("%v", codes)
	}
	apart(t, "shared", answers)
	scribble(reflect.ValueOf(answers))
	if g.tell() != ahead {
		t.Fatalf("what was handed in has changed")
	}
}
