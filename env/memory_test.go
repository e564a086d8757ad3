package env_test

import (
	"cmp"
	"fmt"
	"reflect"
	"slices"
	"testing"

	"wafer/api"
	"wafer/env"
)

// roomy: the same plain data in new memory, with spare room behind each list, in which something stands.
func roomy[T any](x T) T {
	y := reflect.New(reflect.TypeOf(x)).Elem()
	y.Set(reflect.ValueOf(x))
	roomIn(y)
	return y.Interface().(T)
}

func roomIn(v reflect.Value) {
	switch v.Kind() {
	case reflect.Struct:
		for i := range v.NumField() {
			roomIn(v.Field(i))
		}
	case reflect.Slice:
		l := reflect.MakeSlice(v.Type(), v.Len()+2, v.Len()+2)
		reflect.Copy(l, v)
		for i := range v.Len() {
			roomIn(l.Index(i))
		}
		mark(l.Index(v.Len()))
		mark(l.Index(v.Len() + 1))
		v.Set(l.Slice(0, v.Len()))
	}
}

// mark: writes something into a thing, so that it is seen that it was there.
func mark(v reflect.Value) {
	switch v.Kind() {
	case reflect.Int, reflect.Int64:
		v.SetInt(7777)
	case reflect.String:
		v.SetString("spare")
	case reflect.Struct:
		for i := range v.NumField() {
			mark(v.Field(i))
		}
	}
}

// scribble: writes into all lists of an answer, and into their spare room.
func scribble(x any) { scribbleIn(reflect.ValueOf(x)) }

func scribbleIn(v reflect.Value) {
	switch v.Kind() {
	case reflect.Struct:
		for i := range v.NumField() {
			scribbleIn(v.Field(i))
		}
	case reflect.Slice:
		all := v.Slice(0, v.Cap())
		for i := range all.Len() {
			scribbleIn(all.Index(i))
			all.Index(i).Set(reflect.Zero(v.Type().Elem()))
			mark(all.Index(i))
		}
	}
}

// piece: the memory of a list, with its spare room.
type piece struct{ from, to uintptr }

// pieces: those of all lists in plain data.
func pieces(x any) []piece {
	var l []piece
	var look func(v reflect.Value)
	look = func(v reflect.Value) {
		switch v.Kind() {
		case reflect.Struct:
			for i := range v.NumField() {
				look(v.Field(i))
			}
		case reflect.Slice:
			if v.Cap() > 0 {
				l = append(l, piece{v.Pointer(), v.Pointer() + uintptr(v.Cap())*v.Type().Elem().Size()})
			}
			for i := range v.Len() {
				look(v.Index(i))
			}
		}
	}
	look(reflect.ValueOf(x))
	return l
}

// apart: no two lists of an answer share memory, nor one with an argument's. (The arguments may share theirs with one another.)
func apart(t *testing.T, what string, answer any, arguments ...any) {
	t.Helper()
	own := pieces(answer)
	slices.SortFunc(own, func(p, q piece) int { return cmp.Compare(p.from, q.from) })
	for i := 1; i < len(own); i++ {
		if own[i].from < own[i-1].to {
			t.Fatalf("%s: two lists of the answer share memory", brief(what))
		}
	}
	for _, a := range arguments {
		for _, p := range pieces(a) {
			// The first one that ends behind where this one begins: those ahead of it do not reach it.
			i, _ := slices.BinarySearchFunc(own, p.from, func(q piece, from uintptr) int { return cmp.Compare(q.to, from+1) })
			if i < len(own) && own[i].from < p.to {
				t.Fatalf("%s: a list of the answer shares memory with an argument's", brief(what))
			}
		}
	}
}

// TestMemoryOfStructures: what is handed in is not changed, its spare room neither; what is handed out is new memory, whoever writes into it.
func TestMemoryOfStructures(t *testing.T) {
	for seed := range int64(1200) {
		m := newMaker(seed)
		a := roomy(m.abs(3))
		b := roomy(m.abs(2))
		from, to := roomy(m.stamps()), roomy(m.stamps())
		ahead := tellRoom(a) + tellRoom(b) + tellRoom(from) + tellRoom(to)
		sorted, free, renamed, canon := env.Sorted(a.S), env.Free(a), env.Rename(a, from, to), env.Canon(a)
		env.Size(a.S, 1000)
		env.SizeAbs(a, 1000)
		env.SameAbs(a, b)
		env.Text(a)
		what := fmt.Sprint(seed)
		apart(t, what+" Sorted", sorted, a)
		apart(t, what+" Free", free, a)
		apart(t, what+" Rename", renamed, a, from, to)
		apart(t, what+" Canon", canon, a)
		told := tell(canon)
		scribble(sorted)
		scribble(free)
		scribble(renamed)
		if tell(canon) != told {
			t.Fatalf("%d: answers share memory", seed)
		}
		scribble(canon)
		if tellRoom(a)+tellRoom(b)+tellRoom(from)+tellRoom(to) != ahead {
			t.Fatalf("%d: what was handed in has changed", seed)
		}
	}
}

// TestMemoryOfEnvironments: the same of what is found in them.
func TestMemoryOfEnvironments(t *testing.T) {
	found := 0
	for seed := range int64(400) {
		m := newMaker(seed)
		e := roomy(m.env(3))
		ahead := tellRoom(e)
		for range 6 {
			low, high, y := roomy(m.path(true)), roomy(m.path(false)), roomy(m.written(3))
			ask := tellRoom(low) + tellRoom(high) + tellRoom(y)
			val, _ := e.Val(low)
			con, code := e.Con(high)
			typ, _ := e.Typ(low)
			sub, _ := e.Sub(high)
			fun, _ := e.Fun(high)
			sig, _ := e.Sig(high)
			stamps := e.Stamps()
			one, _ := e.Type(y)
			scheme, _ := e.Scheme(y)
			if code == api.OK {
				found++
			}
			for i, x := range []any{val, con, typ, sub, fun, sig, stamps, one, scheme} {
				apart(t, fmt.Sprint(seed, ": ", i), x, e, low, high, y)
				scribble(x)
			}
			if tellRoom(e) != ahead || tellRoom(low)+tellRoom(high)+tellRoom(y) != ask {
				t.Fatalf("%d: what was handed in has changed", seed)
			}
		}
	}
	if found < 50 {
		t.Errorf("only %d constructors were found", found)
	}
}

// TestMemoryShared: no two lists of an answer share memory, though they did in what was handed in.
func TestMemoryShared(t *testing.T) {
	part := pair(stamp(1), fn(stamp(2), unit()))
	ctors := []api.Ctor{ctor("A", part, part), ctor("B", part)}
	s := str(typ("t", part, ctors...), typ("u", part, ctors...), val("x", part), val("y", part))
	a := api.Abs{Stamps: ints(1), S: str(api.SubMember{Name: "M", S: s}, api.SubMember{Name: "N", S: s}, api.FunMember{Name: "F", F: api.Fun{Stamps: ints(1), Arg: s, Res: api.Abs{S: s}}}, api.SigMember{Name: "S", A: api.Abs{S: s}})}
	a.S.Sigs[0].A.Stamps, a.S.Funs[0].F.Res.Stamps = a.Stamps, a.Stamps
	x := sel("M", sel("N", variable("m")))
	e := env.Env{
		Subs: []env.Sub{{Name: "M", S: a.S, X: x}},
		Typs: []env.Typ{{Name: "t", T: part, Ctors: ctors}},
		Cons: []env.Con{{Name: "A", T: part, Args: ctors[0].Args, All: ctors, X: x, Out: x}},
		Vals: []env.Val{{Name: "x", S: of(0, part), X: x}},
		Funs: []env.Fun{{Name: "F", F: a.S.Funs[0].F, X: x}},
		Sigs: []env.Sig{{Name: "S", A: a}},
	}
	ahead := tellRoom(e)
	apart(t, "Sorted", env.Sorted(a.S), a)
	apart(t, "Rename", env.Rename(a, ints(2), ints(1)), a)
	apart(t, "Canon", env.Canon(a), a)
	for _, p := range [][]string{{"A"}, {"M", "M", "A"}, {"M", "N", "B"}} {
		con, code := e.Con(p)
		if code != api.OK {
			t.Fatalf("Con %q: %v", p, code)
		}
		apart(t, "Con", con, e)
		scribble(con)
	}
	sub, _ := e.Sub(path("M"))
	apart(t, "Sub", sub, e)
	fun, _ := e.Fun(path("M", "F"))
	apart(t, "Fun", fun, e)
	sig, _ := e.Sig(path("S"))
	apart(t, "Sig", sig, e)
	typ, _ := e.Typ(path("t"))
	apart(t, "Typ", typ, e)
	scheme, _ := e.Scheme(ypair(ycon("t"), ycon("t")))
	apart(t, "Scheme", scheme, e)
	if tellRoom(e) != ahead {
		t.Fatalf("what was handed in has changed")
	}
}

// TestCallsByThemselves: what a call answers hangs on its arguments alone.
func TestCallsByThemselves(t *testing.T) {
	for seed := range int64(300) {
		m := newMaker(seed)
		a, e, from, to, p := m.abs(3), m.env(2), m.stamps(), m.stamps(), m.path(true)
		ask := func() string {
			v, _ := e.Val(p)
			return tell(env.Canon(a)) + tell(env.Rename(a, from, to)) + tell(env.Free(a)) + tell(e.Stamps()) + tell(v) + env.Text(a)
		}
		first := ask()
		for range 4 {
			same(t, "asked again", ask(), first)
		}
	}
}
