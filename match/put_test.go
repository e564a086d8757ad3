package match_test

import (
	"fmt"
	"slices"
	"testing"

	"wafer/api"
	"wafer/env"
	"wafer/match"
	"wafer/types"
)

// putText: what Put answers, in one line.
func putText(s api.Str, stamps []int, l []api.Type) string {
	is, err := match.Put(s, stamps, l)
	if err == api.OK {
		return show(is)
	}
	if tell(is) != tell(api.Str{}) {
		return "a structure beside an error"
	}
	return code(err)
}

func putAbsText(a api.Abs, stamps []int, l []api.Type) string {
	is, err := match.PutAbs(a, stamps, l)
	if err == api.OK {
		return showAbs(is)
	}
	if tell(is) != tell(api.Abs{}) {
		return "an Abs beside an error"
	}
	return code(err)
}

// wantPut: Put answers that, and the chapter's words alone what is alike.
func wantPut(t *testing.T, s api.Str, stamps []int, l []api.Type, want string) {
	t.Helper()
	what := fmt.Sprintf("Put(%s; %v; %s)", brief(show(s)), stamps, brief(texts(l)))
	if got := putText(s, stamps, l); got != want {
		t.Errorf("%s: %s, want %s", what, brief(got), brief(want))
	}
	wantPlainly(t, what, api.Abs{S: s}, stamps, l)
}

// wantPlainly: PutAbs answers what is alike to what the chapter's words alone say.
func wantPlainly(t *testing.T, what string, a api.Abs, stamps []int, l []api.Type) {
	t.Helper()
	got, err := match.PutAbs(a, stamps, l)
	plain, want := plainPutAbs(a, stamps, l)
	if err != want || !alikeAbs(got, plain) {
		t.Errorf("%s: %s %s, by the chapter's words %s %s", what, brief(showAbs(got)), code(err), brief(showAbs(plain)), code(want))
	}
}

func TestPut(t *testing.T) {
	five, six := ints(5), ints(5, 6)
	for _, one := range []struct {
		s      api.Str
		stamps []int
		l      []api.Type
		want   string
	}{
		{str(val("x", fn(stamp(5), stamp(6)))), five, list(stamp(6)), "val x #6 -> #6"},
		{str(), five, list(integer()), ""},
		{str(val("x", stamp(5))), nil, nil, "val x #5"},
		{str(typ("t", stamp(5)), typ("u", pair(stamp(5), fn(stamp(5), stamp(7))))), five, list(integer()), "type t = int, type u = int * (int -> #7)"},
		{str(typ("t", stamp(5), ctor("A"), ctor("B", pair(stamp(5), stamp(6))))), six, list(stamp(8), boolean()), "type t = #8: A | B of #8 * bool"},
		{str(typ("t", stamp(7), ctor("A", stamp(5), stamp(5)), ctor("B", stamp(6)))), six, list(unit(), stamp(5)), "type t = #7: A of unit of unit | B of #5"},
		{str(poly("f", 2, fn(gen(0), fn(stamp(5), gen(1))))), five, list(pair(integer(), integer())), "val f 'a -> int * int -> 'b /2"},
		{str(sub("M", typ("t", stamp(5)), sub("N", val("x", stamp(5)))), val("x", stamp(5))), five, list(unit()),
			"val x unit, structure M (type t = unit, structure N (val x unit))"},
		{str(functor("F", ints(1), str(val("x", pair(stamp(1), stamp(5)))), abs(ints(2), typ("t", stamp(5)), val("y", fn(stamp(2), fn(stamp(1), stamp(5))))))), five, list(boolean()),
			"functor F [1] (val x #1 * bool) -> ([2] type t = bool, val y #2 -> #1 -> bool)"},
		{str(sig("S", ints(1), typ("t", stamp(5)), val("x", stamp(1)))), five, list(integer()), "signature S ([1] type t = int, val x #1)"},
		// At once: nothing is replaced in what is put in.
		{str(val("x", pair(stamp(5), stamp(6)))), six, list(stamp(6), stamp(5)), "val x #6 * #5"},
		{str(val("x", pair(stamp(5), stamp(6)))), six, list(fn(stamp(6), stamp(5)), integer()), "val x (#6 -> #5) * int"},
		// The first stamp that fits.
		{str(val("x", pair(stamp(5), stamp(6)))), ints(5, 5, 6, 5), list(integer(), boolean(), unit(), stamp(1)), "val x int * unit"},
		// Other kinds with its number stay.
		{str(val("x", pair(node(api.TMeta, 5), stamp(5))), poly("y", 6, gen(5))), five, list(integer()), "val x ?5 * int, val y 'f /6"},
		// What is put in may have metas.
		{str(val("x", stamp(5))), five, list(node(api.TMeta, 3)), "val x ?3"},
		// The order of members stays, and those of one name.
		{str(val("y", stamp(5)), val("x", stamp(5)), val("y", stamp(6))), five, list(integer()), "val y int, val x int, val y #6"},
		{str(val("x", fn(stamp(-1), stamp(1<<40)))), ints(1<<40, -1), list(stamp(-1), integer()), "val x int -> #-1"},
	} {
		wantPut(t, one.s, one.stamps, one.l, one.want)
	}
}

// TestPutBound: stamps that are bound are not free there.
func TestPutBound(t *testing.T) {
	five := ints(5)
	for _, one := range []struct {
		s    api.Str
		want string
	}{
		{str(sig("S", five, val("x", stamp(5))), val("x", stamp(5))), "val x int, signature S ([5] val x #5)"},
		{str(sig("S", ints(4, 5), val("x", fn(stamp(4), stamp(5)))), val("x", stamp(5))), "val x int, signature S ([4 5] val x #4 -> #5)"},
		{str(sig("S", nil, sub("M", sig("T", five, val("x", stamp(5))), val("x", stamp(5))))), "signature S ([] structure M (val x int, signature T ([5] val x #5)))"},
		// A functor's stamps are bound in its Arg and its Res.
		{str(functor("F", five, str(val("x", stamp(5))), abs(nil, val("x", stamp(5)))), val("x", stamp(5))), "val x int, functor F [5] (val x #5) -> ([] val x #5)"},
		// Those of Res are free in Arg.
		{str(functor("F", nil, str(val("x", stamp(5))), abs(five, val("x", stamp(5))))), "functor F [] (val x int) -> ([5] val x #5)"},
		{str(sub("M", functor("F", five, str(val("x", stamp(5))), abs(five, val("x", stamp(5)))), val("x", stamp(5)))), "structure M (val x int, functor F [5] (val x #5) -> ([5] val x #5))"},
		// Behind what binds it is free again.
		{str(sig("S", five, val("x", stamp(5))), sig("T", nil, val("x", stamp(5)))), "signature S ([5] val x #5), signature T ([] val x int)"},
		{str(sig("S", five, sig("T", five, val("x", stamp(5))), sig("U", nil, val("x", stamp(5)))), sig("V", nil, val("x", stamp(5)))), "signature S ([5] signature T ([5] val x #5), signature U ([] val x #5)), signature V ([] val x int)"},
		{str(sig("S", ints(5, 5), sig("T", ints(5, 5), val("x", stamp(5)))), sig("V", nil, val("x", stamp(5)))), "signature S ([5 5] signature T ([5 5] val x #5)), signature V ([] val x int)"},
	} {
		wantPut(t, one.s, five, list(integer()), one.want)
	}
}

// TestPutCaught: a binder that would catch a stamp of what is put in gets another number, that stands nowhere else.
func TestPutCaught(t *testing.T) {
	five := ints(5)
	for _, s := range []api.Str{
		str(sig("S", ints(6), val("x", fn(stamp(5), stamp(6))))),
		str(sig("S", ints(6, 7), val("x", fn(stamp(5), fn(stamp(6), stamp(7)))))),
		str(sig("S", ints(6, 6), val("x", fn(stamp(5), stamp(6))))),
		str(functor("F", ints(6), str(val("x", pair(stamp(5), stamp(6)))), abs(ints(7), val("y", fn(pair(stamp(5), stamp(6)), stamp(7)))))),
		str(functor("F", ints(7), str(val("x", pair(stamp(5), stamp(7)))), abs(ints(6, 7), val("y", fn(pair(stamp(5), stamp(6)), stamp(7)))))),
		str(sig("S", ints(6), sig("T", ints(6), val("x", fn(stamp(5), stamp(6)))), val("x", fn(stamp(5), stamp(6)))), val("x", fn(stamp(5), stamp(6)))),
		// Numbers from 0 on stand here, bound and free, where the new ones could come from.
		str(val("z", fn(stamp(0), stamp(1))), sig("S", ints(6, 2), val("x", fn(fn(stamp(5), stamp(6)), fn(stamp(2), fn(stamp(3), stamp(4))))), sig("T", ints(8, 9), val("x", fn(stamp(6), fn(stamp(8), stamp(10))))))),
		// A number that stands as a binder's alone.
		str(sig("S", ints(6), sig("T", ints(0, 1, 2), val("x", fn(stamp(5), stamp(6)))))),
		str(sig("S", ints(6), val("x", stamp(6)))),
		str(sub("M", sig("S", ints(6), typ("t", stamp(6), ctor("A", stamp(5)), ctor("B", fn(stamp(5), stamp(6))))))),
	} {
		for _, by := range []api.Type{stamp(6), fn(stamp(6), stamp(6)), fn(stamp(6), fn(stamp(7), stamp(8))), fn(stamp(0), stamp(6)), pair(stamp(1), stamp(2))} {
			what := fmt.Sprintf("Put(%s; 5; %s)", show(s), types.Text(by))
			is, err := match.Put(s, five, list(by))
			if err != api.OK {
				t.Fatalf("%s: %s", what, code(err))
			}
			wantPlainly(t, what, api.Abs{S: s}, five, list(by))
			free := slices.Clone(env.Free(api.Abs{S: s}))
			if slices.Contains(free, 5) {
				free = append(slices.DeleteFunc(free, func(n int) bool { return n == 5 }), types.Stamps(by)...)
			}
			slices.Sort(free)
			same(t, what+": what is free", env.Free(api.Abs{S: is}), slices.Compact(free))
			wantNew(t, what, api.Abs{S: s}, api.Abs{S: is}, list(by))
		}
	}
}

// wantNew: each binder has the numbers that it had, or other ones that stand nowhere else.
func wantNew(t *testing.T, what string, ahead, is api.Abs, l []api.Type) {
	t.Helper()
	old := map[int]bool{}
	for _, n := range stampsOf(ahead) {
		old[n] = true
	}
	for _, by := range l {
		for _, n := range types.Stamps(by) {
			old[n] = true
		}
	}
	before, after := binders(ahead), binders(is)
	used := map[int]bool{}
	for i, l := range after {
		for k, n := range l {
			first := slices.Index(before[i], before[i][k])
			if n != before[i][k] && (old[n] || first == k && used[n]) {
				t.Errorf("%s: the new number %d stands elsewhere: %s", what, n, showAbs(is))
			}
			used[n] = true
		}
	}
}

// binders: all lists of stamps that are bound, as they stand.
func binders(a api.Abs) [][]int {
	l := [][]int{a.Stamps}
	var within func(s api.Str)
	within = func(s api.Str) {
		for _, m := range s.Subs {
			within(m.S)
		}
		for _, m := range s.Funs {
			l = append(l, m.F.Stamps)
			within(m.F.Arg)
			l = append(l, m.F.Res.Stamps)
			within(m.F.Res.S)
		}
		for _, m := range s.Sigs {
			l = append(l, m.A.Stamps)
			within(m.A.S)
		}
	}
	within(a.S)
	return l
}

// stampsOf: all that stand anywhere, bound or not.
func stampsOf(a api.Abs) []int {
	var l []int
	for _, b := range binders(a) {
		l = append(l, b...)
	}
	var within func(s api.Str)
	within = func(s api.Str) {
		for _, m := range s.Types {
			l = append(l, types.Stamps(m.T)...)
			for _, c := range m.Ctors {
				for _, t := range c.Args {
					l = append(l, types.Stamps(t)...)
				}
			}
		}
		for _, m := range s.Vals {
			l = append(l, types.Stamps(m.S.T)...)
		}
		for _, m := range s.Subs {
			within(m.S)
		}
		for _, m := range s.Funs {
			within(m.F.Arg)
			within(m.F.Res.S)
		}
		for _, m := range s.Sigs {
			within(m.A.S)
		}
	}
	within(a.S)
	return l
}

// TestPutAbs: its own stamps are bound, too.
func TestPutAbs(t *testing.T) {
	for _, one := range []struct {
		a    api.Abs
		by   api.Type
		want string
	}{
		{abs(nil, val("x", stamp(5))), integer(), "[] val x int"},
		{abs(ints(5), val("x", stamp(5))), integer(), "[5] val x #5"},
		{abs(ints(7), val("x", fn(stamp(7), stamp(5)))), integer(), "[7] val x #7 -> int"},
		{abs(ints(7, 5), val("x", fn(stamp(7), stamp(5)))), integer(), "[7 5] val x #7 -> #5"},
		{abs(ints(7), val("x", fn(stamp(7), stamp(5)))), stamp(8), "[7] val x #7 -> #8"},
		{abs(ints(5), functor("F", nil, str(val("x", stamp(5))), abs(nil))), stamp(8), "[5] functor F [] (val x #5) -> ([])"},
	} {
		if got := putAbsText(one.a, ints(5), list(one.by)); got != one.want {
			t.Errorf("PutAbs(%s): %s, want %s", showAbs(one.a), got, one.want)
		}
		wantPlainly(t, showAbs(one.a), one.a, ints(5), list(one.by))
	}
	caught := abs(ints(6, 7, 6), val("x", fn(stamp(5), fn(stamp(6), stamp(7)))), sig("S", ints(6), val("x", fn(stamp(6), stamp(5)))))
	is, err := match.PutAbs(caught, ints(5), list(pair(stamp(6), stamp(0))))
	if err != api.OK || len(is.Stamps) != 3 || is.Stamps[1] != 7 || is.Stamps[0] == 6 || is.Stamps[0] != is.Stamps[2] {
		t.Errorf("%s %s", showAbs(is), code(err))
	}
	wantPlainly(t, "caught", caught, ints(5), list(pair(stamp(6), stamp(0))))
	wantNew(t, "caught", caught, is, list(pair(stamp(6), stamp(0))))
}

// TestPutErrors: ErrArg ahead of ErrBig; at a limit it fits, one beyond it does not.
func TestPutErrors(t *testing.T) {
	x := str(val("x", stamp(5)))
	great := str(val("x", wide(api.MaxType, stamp(5))))
	for _, one := range []struct {
		s      api.Str
		stamps []int
		l      []api.Type
		want   api.Errno
	}{
		{x, ints(5), nil, api.ErrArg},
		{x, nil, list(integer()), api.ErrArg},
		{x, ints(5, 6), list(integer()), api.ErrArg},
		{x, ints(5), list(integer(), integer()), api.ErrArg},
		{x, ints(5), list(gen(0)), api.ErrArg},
		{x, ints(5), list(fn(integer(), pair(unit(), gen(3)))), api.ErrArg},
		{x, ints(5), list(gen(-1)), api.ErrArg},
		// Also of a stamp that stands nowhere, or that comes too late.
		{x, ints(5, 6), list(integer(), gen(0)), api.ErrArg},
		{x, ints(5, 5), list(integer(), gen(0)), api.ErrArg},
		{str(), ints(5), list(gen(0)), api.ErrArg},
		// Ahead of what is too great.
		{great, ints(5), list(gen(0)), api.ErrArg},
		{great, ints(5), nil, api.ErrArg},
		{great, ints(6, 7), list(integer(), gen(0)), api.ErrArg},
		{great, ints(5), list(integer()), api.ErrBig},
		{great, ints(6), list(integer()), api.ErrBig},
		{great, nil, nil, api.ErrBig},
		{x, ints(5), list(node(api.TMeta, 0)), api.OK},
	} {
		is, err := match.Put(one.s, one.stamps, one.l)
		what := fmt.Sprintf("Put(%s; %v; %s)", brief(show(one.s)), one.stamps, brief(texts(one.l)))
		wantCode(t, what, err, one.want)
		if err != api.OK && tell(is) != tell(api.Str{}) {
			t.Errorf("%s: a structure beside an error", what)
		}
		for _, a := range []api.Abs{{S: one.s}, {Stamps: ints(9), S: one.s}} {
			if abs, err := match.PutAbs(a, one.stamps, one.l); err != one.want || err != api.OK && tell(abs) != tell(api.Abs{}) {
				t.Errorf("PutAbs: %s: %s, want %s", what, code(err), code(one.want))
			}
		}
		wantPlainly(t, what, api.Abs{S: one.s}, one.stamps, one.l)
	}
}

// TestPutGreatTypes: at most MaxType nodes, wherever the type stands.
func TestPutGreatTypes(t *testing.T) {
	// Of 499 nodes, with 250 leaves.
	part := func(leaf api.Type) api.Type { return wide(250, leaf) }
	for _, one := range []struct {
		t, by api.Type
		want  api.Errno
	}{
		// 1 + 499 + 499 = 999 nodes.
		{pair(part(integer()), stamp(5)), part(unit()), api.OK},
		{pair(part(integer()), stamp(5)), wide(251, unit()), api.ErrBig},
		// One node, of one kid, more.
		{node(api.TFn, 0, pair(part(integer()), stamp(5))), part(unit()), api.OK},
		{node(api.TFn, 0, node(api.TFn, 0, pair(part(integer()), stamp(5)))), part(unit()), api.ErrBig},
		{stamp(5), node(api.TFn, 0, wide(500, integer())), api.OK},
		{stamp(5), wide(501, integer()), api.ErrBig},
		{wide(500, stamp(5)), integer(), api.OK},
		{wide(500, stamp(5)), fn(integer(), integer()), api.ErrBig},
		// It gets less by what comes in place of a stamp with Kids.
		{node(api.TStamp, 5, wide(600, integer())), integer(), api.OK},
	} {
		for what, s := range map[string]api.Str{
			"type":        str(typ("t", one.t)),
			"constructor": str(typ("t", stamp(1), ctor("A"), ctor("B", one.t))),
			"value":       str(val("x", one.t)),
			"structure":   str(sub("M", sub("N", val("x", one.t)))),
			"Arg":         str(functor("F", nil, str(val("x", one.t)), abs(nil))),
			"Res":         str(functor("F", nil, str(), abs(nil, val("x", one.t)))),
			"signature":   str(sig("S", nil, typ("t", one.t))),
		} {
			_, err := match.Put(s, ints(5), list(one.by))
			wantCode(t, what, err, one.want)
			wantPlainly(t, what, api.Abs{S: s}, ints(5), list(one.by))
		}
	}
}

// TestPutGreatStructures: at most MaxStr nodes by env.Size, of an Abs by env.SizeAbs.
func TestPutGreatStructures(t *testing.T) {
	// A structure of 1 + 4 * (1 + 999) - 1 = 4000 nodes, once a type of so many stands in place of the stamp.
	filled := func(last ...any) api.Str {
		l := []any{val("a", stamp(5)), val("b", stamp(5)), val("c", stamp(5))}
		return str(append(l, last...)...)
	}
	by := list(wide(500, integer())) // 999 nodes
	for _, one := range []struct {
		a    api.Abs
		want api.Errno
	}{
		{api.Abs{S: filled(val("d", node(api.TFn, 0, wide(499, unit()))))}, api.OK},
		{api.Abs{S: filled(val("d", wide(500, unit())))}, api.ErrBig},
		{api.Abs{Stamps: ints(1), S: filled(val("d", node(api.TFn, 0, wide(499, unit()))))}, api.ErrBig},
		{api.Abs{Stamps: ints(1), S: filled(val("d", wide(499, unit())))}, api.OK},
		{api.Abs{Stamps: ints(1, 1), S: filled(val("d", wide(499, unit())))}, api.ErrBig},
		{api.Abs{S: filled(sig("S", ints(1, 2, 3), val("d", wide(497, unit()))))}, api.OK},
		{api.Abs{S: filled(sig("S", ints(1, 2, 3, 3), val("d", wide(497, unit()))))}, api.ErrBig},
		{api.Abs{S: filled(functor("F", ints(1), str(), abs(ints(1), val("d", wide(497, unit())))))}, api.OK},
		{api.Abs{S: filled(functor("F", ints(1), str(), abs(ints(1, 2), val("d", wide(497, unit())))))}, api.ErrBig},
		{api.Abs{S: filled(functor("F", ints(1, 2), str(), abs(ints(1), val("d", wide(497, unit())))))}, api.ErrBig},
		{api.Abs{S: filled(sub("M", val("d", wide(498, unit()))))}, api.OK},
		{api.Abs{S: filled(sub("M", val("d", wide(498, unit()))), sub("N"))}, api.ErrBig},
	} {
		is, err := match.PutAbs(one.a, ints(5), by)
		wantCode(t, brief(showAbs(one.a)), err, one.want)
		if size := env.SizeAbs(is, api.MaxStr); err == api.OK && (size < api.MaxStr-1 || size > api.MaxStr) {
			t.Errorf("%d nodes: not near the limit", size)
		}
		if err != api.OK && tell(is) != tell(api.Abs{}) {
			t.Errorf("an Abs beside an error")
		}
		wantPlainly(t, brief(showAbs(one.a)), one.a, ints(5), by)
		if one.a.Stamps == nil {
			_, err := match.Put(one.a.S, ints(5), by)
			wantCode(t, brief(showAbs(one.a)), err, one.want)
		}
	}
	var many api.Str
	for i := range 2000 {
		many.Vals = append(many.Vals, val(fmt.Sprint("x", i), integer()))
	}
	_, err := match.Put(many, nil, nil)
	wantCode(t, "2000 values", err, api.ErrBig)
	many.Vals = many.Vals[1:]
	_, err = match.Put(many, nil, nil)
	wantCode(t, "1999 values", err, api.OK)
}

// TestPutByChance: by the chapter's words alone, of structures and types by chance, right and wild.
func TestPutByChance(t *testing.T) {
	t.Parallel()
	count, caught := map[api.Errno]int{}, 0
	for seed := range int64(15000) {
		m := newMaker(seed)
		a, stamps := m.abs(3), m.stamps()
		l := m.types(len(stamps), 3)
		if m.Intn(30) == 0 {
			stamps = append(stamps, 3)
		}
		if m.Intn(30) == 0 && len(l) > 0 {
			l[0] = wide(200+m.Intn(400), stamp(m.stampNumber()))
		}
		what := fmt.Sprintf("%d: %s; %v; %s", seed, showAbs(a), stamps, texts(l))
		is, err := match.PutAbs(a, stamps, l)
		plain, want := plainPutAbs(a, stamps, l)
		if err != want || !alikeAbs(is, plain) || err != api.OK && tell(is) != tell(api.Abs{}) {
			t.Fatalf("%s: %s %s, by the chapter's words %s %s", brief(what), brief(showAbs(is)), code(err), brief(showAbs(plain)), code(want))
		}
		s, err := match.Put(a.S, stamps, l)
		plainly, want := plainPut(a.S, stamps, l)
		if err != want || !alike(s, plainly) || err != api.OK && tell(s) != tell(api.Str{}) {
			t.Fatalf("%s: %s %s, by the chapter's words %s %s", brief(what), brief(show(s)), code(err), brief(show(plainly)), code(want))
		}
		count[err]++
		if err == api.OK {
			wantNew(t, brief(what), api.Abs{S: a.S}, api.Abs{S: s}, l)
			if tell(binders(api.Abs{S: s})) != tell(binders(api.Abs{S: a.S})) {
				caught++
			}
		}
	}
	if count[api.OK] < 3000 || count[api.ErrArg] < 200 || count[api.ErrBig] < 100 || caught < 1000 {
		t.Errorf("%v, %d caught: the test does not try much", count, caught)
	}
}
