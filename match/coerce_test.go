package match_test

import (
	"fmt"
	"slices"
	"strings"
	"testing"

	"wafer/api"
	"wafer/env"
	"wafer/kernel"
	"wafer/match"
	"wafer/target"
	"wafer/trans"
)

// thing: what a term comes to, as far as Coerce may make something of it: a record, or a thing that is told by the path at which x has it.
type thing struct {
	path   string
	fields map[string]thing
	record bool
}

// field: what a thing has under a label.
func (v thing) field(label string) thing {
	if v.record {
		one, ok := v.fields[label]
		if !ok {
			panic("no field " + label)
		}
		return one
	}
	return thing{path: v.path + "." + label}
}

// comes: what a term comes to; names are x's surroundings.
func comes(m api.TM, names map[string]thing) thing {
	switch m.Kind {
	case api.XVar:
		one, ok := names[m.Name]
		if !ok {
			panic("no name " + m.Name)
		}
		return one
	case api.XLet:
		inner := map[string]thing{}
		for n, v := range names {
			inner[n] = v
		}
		inner[m.Name] = comes(m.Kids[0], names)
		return comes(m.Kids[1], inner)
	case api.XRec:
		v := thing{record: true, fields: map[string]thing{}}
		for i, label := range m.Labels {
			v.fields[label] = comes(m.Kids[i], names)
		}
		return v
	case api.XSel:
		return comes(m.Kids[0], names).field(m.Name)
	case api.XInst, api.XAll:
		return comes(m.Kids[0], names)
	case api.XFail:
		return thing{path: "nothing"}
	}
	panic(fmt.Sprint("a term of kind ", m.Kind))
}

// wantThings: of a term all that a structure asks is what x has at its path; from a place at which a datatype is hidden on nothing is asked.
func wantThings(t *testing.T, what string, v thing, asks api.Str, path string) {
	t.Helper()
	if !v.record {
		t.Fatalf("%s: no record at %s", what, path)
	}
	labels := 0
	want := func(label string) {
		labels++
		if got := v.field(label).path; got != path+"."+label {
			t.Fatalf("%s: %s at %s.%s", what, got, path, label)
		}
	}
	for _, m := range asks.Types {
		for _, c := range m.Ctors {
			want(c.Name + "()")
		}
		if len(m.Ctors) > 0 {
			want("out " + m.Name)
		}
	}
	for _, m := range asks.Vals {
		want(m.Name)
	}
	for _, m := range asks.Subs {
		labels++
		wantThings(t, what, v.field(m.Name), m.S, path+"."+m.Name)
	}
	if labels != len(v.fields) {
		t.Fatalf("%s: %d things at %s, want %d", what, len(v.fields), path, labels)
	}
}

// surroundings: the free stamps of both, some stamps that nobody names ahead of them, each once.
func surroundings(has, asks api.Str) []int {
	l := slices.Concat(env.Free(api.Abs{S: has}), env.Free(api.Abs{S: asks}))
	slices.Sort(l)
	return slices.Compact(l)
}

// wantCoerced: Coerce's term has its type, and tells the things of x.
func wantCoerced(t *testing.T, has, asks api.Str, x api.TM, l []kernel.Bind) api.TM {
	t.Helper()
	what := func() string { return fmt.Sprintf("Coerce(%s; %s)", brief(show(has)), brief(show(asks))) }
	m, err := match.Coerce(has, asks, x)
	if err != api.OK {
		t.Fatalf("%s: %s", what(), code(err))
	}
	to, err := trans.Str(asks)
	if err != api.OK {
		t.Fatalf("%s: the type of what is asked: %s", what(), code(err))
	}
	is, err := kernel.Check(m, surroundings(has, asks), l)
	if err != api.OK {
		t.Fatalf("%s: %s of the kernel: %s", what(), code(err), brief(target.Show(m)))
	}
	if !target.SameType(is, to) {
		t.Fatalf("%s: %s, want %s", what(), brief(target.Text(is)), brief(target.Text(to)))
	}
	return m
}

// coerced: of x, a variable.
func coerced(t *testing.T, has, asks api.Str) api.TM {
	t.Helper()
	from, err := trans.Str(has)
	if err != api.OK {
		t.Fatalf("the type of %s: %s", show(has), code(err))
	}
	m := wantCoerced(t, has, asks, variable("x"), []kernel.Bind{{Name: "x", T: from}})
	if !hiddenData(asks) {
		wantThings(t, show(has)+"; "+show(asks), comes(m, map[string]thing{"x": {path: "x"}}), asks, "x")
	}
	return m
}

func TestCoerce(t *testing.T) {
	data := typ("d", stamp(3), ctor("A"), ctor("B", pair(integer(), stamp(3))))
	inner := sub("N", val("x", stamp(7)), val("y", stamp(7)), data)
	list := str
	deep := func(m api.SubMember) api.Str {
		for range 11 {
			m = sub("M", m, val("x", integer()))
		}
		return str(m)
	}
	for _, one := range []struct{ has, asks api.Str }{
		{list(), list()},
		{list(val("x", integer())), list()},
		{list(val("x", integer())), list(val("x", integer()))},
		{list(val("x", integer()), val("y", integer()), val("z", integer())), list(val("y", integer()))},
		{list(val("z", boolean()), val("a", stamp(4))), list(val("a", stamp(4)), val("z", boolean()))},
		{list(typ("t", stamp(4))), list(typ("t", stamp(4)))},
		{list(data, val("x", stamp(3))), list(data)},
		{list(data, val("x", stamp(3))), list(typ("d", stamp(3)), val("x", stamp(3)))},
		{list(sub("M", inner, val("x", integer())), val("x", unit())), list(sub("M", inner))},
		{list(sub("M", inner, val("x", integer())), val("x", unit())), list(sub("M", sub("N", val("y", stamp(7)))), val("x", unit()))},
		{deep(inner), deep(inner)},
		{deep(inner), deep(sub("N", val("x", stamp(7))))},
		{list(poly("f", 1, fn(gen(0), gen(0)))), list(poly("f", 1, fn(gen(0), gen(0))))},
		{list(poly("f", 1, fn(gen(0), gen(0)))), list(val("f", fn(integer(), integer())))},
		{list(poly("f", 1, fn(gen(0), gen(0)))), list(val("f", fn(stamp(9), stamp(9))))},
		{list(poly("f", 2, fn(gen(0), gen(1)))), list(poly("f", 1, fn(gen(0), gen(0))))},
		{list(poly("f", 2, fn(gen(0), gen(1)))), list(poly("f", 2, fn(pair(gen(0), gen(1)), fn(gen(1), stamp(1)))))},
		{list(poly("f", 2, fn(gen(0), fn(gen(1), stamp(5))))), list(poly("f", 3, fn(pair(gen(0), gen(1)), fn(pair(gen(2), stamp(6)), stamp(5)))))},
		{list(sub("M", poly("f", 1, fn(gen(0), gen(0))), poly("g", 1, gen(0)))), list(sub("M", val("f", fn(unit(), unit())), poly("g", 1, fn(gen(0), stamp(2)))))},
		{list(val("x", integer()), sub("M", val("x", integer()))), list(val("x", integer()), sub("M", val("x", integer())))},
		// Functors and signatures of the one are not asked for.
		{list(functor("F", ints(1), str(val("x", stamp(1))), abs(ints(2), val("x", stamp(2)))), sig("S", ints(1)), val("m", integer())), list(val("m", integer()))},
	} {
		coerced(t, one.has, one.asks)
	}
}

// TestCoerceInstances: the target types of schemes that are instances are other ones, and so must be the terms.
func TestCoerceInstances(t *testing.T) {
	general := str(poly("f", 1, fn(gen(0), gen(0))))
	m := coerced(t, general, str(val("f", fn(integer(), integer()))))
	if text := target.Show(m); !strings.Contains(text, "int") {
		t.Errorf("%s: the type of the instance is not there", text)
	}
	// What is alike up to the numbers that are bound stays as it is, or not: both have the type.
	coerced(t, str(poly("f", 1, fn(gen(0), gen(0))), val("x", stamp(80))), general)
	// Many that are left open, in another order.
	var has, asks api.Type
	const many = 40
	for i := range many {
		if i == 0 {
			has, asks = gen(0), pair(gen(0), stamp(1))
		} else {
			has, asks = pair(has, gen(i)), pair(asks, fn(gen(i), gen(many-1-i%7)))
		}
	}
	s := str(api.ValMember{Name: "f", S: plainCanonical(asks)})
	coerced(t, str(poly("f", many, has)), s)
	coerced(t, str(poly("f", many, has), sub("M", poly("f", many, has))), str(sub("M", s.Vals[0])))
}

// TestCoerceNumbers: numbers of stamps of types without constructors are no one's in the target, whatever they are; they are in scope all the same.
func TestCoerceNumbers(t *testing.T) {
	has := str(poly("f", 2, fn(gen(0), gen(1))))
	asks := str(poly("f", 3, fn(pair(gen(0), gen(1)), gen(2))))
	for i, n := range edges() {
		one, two := typ("t"+fmt.Sprint(i), stamp(n)), typ("u"+fmt.Sprint(i), stamp(-3-i))
		has.Types = append(has.Types, one, two)
		asks.Types = append(asks.Types, one)
	}
	coerced(t, has, asks)
	asks.Types = nil
	coerced(t, has, asks)
	// One that a later type of its name hides stands free in what is asked alone.
	asks.Types = []api.TyMember{typ("t0", stamp(-20)), typ("t0", has.Types[0].T)}
	for i := range 30 {
		asks.Types[0].T = pair(asks.Types[0].T, stamp(-i))
	}
	coerced(t, has, asks)
	high := str(poly("f", 1, fn(gen(0), stamp(1<<31-1))))
	coerced(t, high, str(poly("f", 1, fn(pair(gen(0), stamp(1<<31-1)), stamp(1<<31-1)))))
}

// TestCoerceTerms: x may be any term, with any names and types in it.
func TestCoerceTerms(t *testing.T) {
	has := str(val("a", integer()), sub("M", val("a", integer()), poly("f", 1, fn(gen(0), gen(0)))))
	asks := str(sub("M", val("a", integer()), poly("f", 1, fn(pair(gen(0), integer()), pair(gen(0), integer())))))
	from, _ := trans.Str(has)
	for _, name := range []string{"m", "x", "", "M", "$", "a", "n"} {
		sel := api.TM{Kind: api.XSel, Name: "m", Kids: []api.TM{variable(name)}}
		rec := api.TT{Kind: api.GRec, Labels: []string{"m"}, Kids: []api.TT{from}}
		wantCoerced(t, has, asks, variable(name), []kernel.Bind{{Name: name, T: from}})
		wantCoerced(t, has, asks, sel, []kernel.Bind{{Name: name, T: rec}})
		// The surroundings may bind the name that the term binds.
		let := api.TM{Kind: api.XLet, Name: "m", Kids: []api.TM{variable(name), variable("m")}}
		wantCoerced(t, has, asks, let, []kernel.Bind{{Name: "m", T: rec}, {Name: name, T: from}})
	}
	// A record, of terms that bind numbers.
	id := api.TM{Kind: api.XAll, N: -1, Kids: []api.TM{{Kind: api.XLam, Name: "y", Types: []api.TT{{Kind: api.GVar, N: -1}}, Kids: []api.TM{variable("y")}}}}
	five := api.TM{Kind: api.XInt, Int: 5}
	inner := api.TM{Kind: api.XRec, Labels: []string{"a", "f"}, Kids: []api.TM{five, id}}
	x := api.TM{Kind: api.XRec, Labels: []string{"M", "a"}, Kids: []api.TM{inner, five}}
	wantCoerced(t, has, asks, x, nil)
	wantCoerced(t, has, str(), x, nil)
}

// TestCoerceErrors: Has' error ahead of ErrArg; with an error the zero term.
func TestCoerceErrors(t *testing.T) {
	twice := []any{val("x", integer()), val("x", boolean())}
	data := typ("t", stamp(1), ctor("A"))
	for _, one := range []struct {
		has, asks api.Str
		want      api.Errno
	}{
		{str(val("x", integer())), str(val("x", boolean())), api.ErrMatch},
		{str(val("x", integer())), str(val("y", integer())), api.ErrMatch},
		{str(val("f", fn(integer(), integer()))), str(poly("f", 1, fn(gen(0), gen(0)))), api.ErrMatch},
		{str(functor("F", nil, str(), abs(nil))), str(functor("F", nil, str(), abs(nil))), api.ErrMatch},
		{str(sig("S", nil)), str(sig("S", nil)), api.ErrMatch},
		// Labels that are alike, in the one, in the other, within.
		{str(twice...), str(), api.ErrArg},
		{str(twice...), str(val("x", integer())), api.ErrMatch},
		{str(val("x", boolean())), str(twice...), api.ErrArg},
		{str(sub("M", twice...)), str(), api.ErrArg},
		{str(sub("M", val("x", boolean()))), str(sub("M", twice...)), api.ErrArg},
		{str(data, typ("u", stamp(2), ctor("A"))), str(), api.ErrArg},
		{str(sub("M"), sub("M")), str(), api.ErrArg},
		{str(functor("M", nil, str(), abs(nil)), sub("M")), str(), api.ErrArg},
		// What has no type in the target.
		{str(val("x", stamp(1<<31))), str(), api.ErrArg},
		{str(val("x", stamp(1<<31-1))), str(val("x", stamp(1<<31-1))), api.OK},
		{str(val("x", stamp(1<<31))), str(val("x", stamp(1<<31))), api.ErrArg},
		{str(val("x", node(api.TMeta, 1))), str(), api.ErrArg},
		{str(val("x", node(api.TMeta, 1))), str(val("x", node(api.TMeta, 1))), api.ErrArg},
		{str(poly("f", 1, gen(0))), str(val("f", node(api.TMeta, 1))), api.ErrArg},
		{str(typ("t", integer(), ctor("A"))), str(), api.ErrArg},
		{str(typ("t", integer(), ctor("A"))), str(typ("t", integer())), api.ErrArg},
		{str(typ("t", stamp(1), ctor("A", integer(), integer()))), str(), api.ErrArg},
		{str(typ("t", stamp(-1), ctor("A"))), str(typ("t", stamp(-1), ctor("A"))), api.ErrArg},
		{str(functor("F", ints(1, 1), str(), abs(nil))), str(), api.ErrArg},
		{str(functor("F", nil, str(), abs(ints(-1)))), str(), api.ErrArg},
		{str(functor("F", nil, str(), abs(ints(1)))), str(), api.OK},
		{str(val("x", node(99, 1))), str(), api.ErrArg},
		// Types without constructors, and signatures, are not asked for in the target.
		{str(typ("t", node(99, 1)), typ("t", node(api.TMeta, 2)), sig("S", ints(1, 1))), str(typ("t", node(api.TMeta, 2))), api.OK},
	} {
		m, err := match.Coerce(one.has, one.asks, variable("x"))
		wantCode(t, show(one.has)+"; "+show(one.asks), err, one.want)
		if err != api.OK && tell(m) != tell(api.TM{}) {
			t.Errorf("%s: a term beside an error", show(one.has))
		}
	}
}

// TestCoerceHidden: a datatype that a later type of its name hides is not asked for; the term has its type all the same.
func TestCoerceHidden(t *testing.T) {
	hidden := []any{typ("t", stamp(1), ctor("A"), ctor("B", integer())), typ("t", integer()), val("x", stamp(1))}
	coerced(t, str(typ("t", integer()), val("x", stamp(1))), str(hidden...))
	m := coerced(t, str(hidden...), str(hidden...))
	wantThings(t, "hidden", comes(m, map[string]thing{"x": {path: "x"}}), str(hidden...), "x")
	coerced(t, str(hidden...), str(typ("t", integer())))
	coerced(t, str(typ("t", integer()), typ("u", stamp(2), ctor("A")), val("x", stamp(1))), str(hidden...))
	coerced(t, str(sub("M", typ("t", integer()), val("x", stamp(1)))), str(sub("M", hidden...)))
	// Here it is the later one that has constructors.
	later := []any{typ("t", integer()), typ("t", stamp(1), ctor("A"))}
	coerced(t, str(later...), str(later...))
	coerced(t, str(later[1]), str(later...))
	if err := match.Has(str(later[0]), str(later...)); err != api.ErrMatch {
		t.Errorf("the last one of a name: %s", code(err))
	}
}

// TestCoerceByChance: P1804: Coerce's term has its type by the kernel.
func TestCoerceByChance(t *testing.T) {
	t.Parallel()
	count := map[api.Errno]int{}
	instances, nested := 0, 0
	for seed := range int64(12000) {
		m := newMaker(seed)
		asks := m.str(2+m.Intn(2), m.Intn(10) == 0)
		has := m.more(asks)
		if m.Intn(10) == 0 {
			m.spoil(&has)
		}
		from, e1 := trans.Str(has)
		_, e2 := trans.Str(asks)
		want := match.Has(has, asks)
		if want == api.OK && (e1 != api.OK || e2 != api.OK) {
			want = api.ErrArg
		}
		x, err := match.Coerce(has, asks, variable("x"))
		if err != want || err != api.OK && tell(x) != tell(api.TM{}) {
			t.Fatalf("%d: %s; %s: %s, want %s", seed, show(has), show(asks), code(err), code(want))
		}
		count[err]++
		if err != api.OK {
			continue
		}
		wantCoerced(t, has, asks, variable("x"), []kernel.Bind{{Name: "x", T: from}})
		if !hiddenData(asks) {
			wantThings(t, show(has)+"; "+show(asks), comes(x, map[string]thing{"x": {path: "x"}}), asks, "x")
		}
		text := tell(x)
		if strings.Contains(text, fmt.Sprintf("{%d ", api.XInst)) {
			instances++
		}
		if len(asks.Subs) > 0 && len(asks.Subs[0].S.Vals) > 0 {
			nested++
		}
	}
	if count[api.OK] < 3000 || count[api.ErrArg] < 300 || count[api.ErrMatch] < 300 || instances < 300 || nested < 300 {
		t.Errorf("%v, %d with instances, %d with what is nested: the test does not try much", count, instances, nested)
	}
}
