package pattern_test

import (
	"reflect"
	"slices"
	"strings"
	"testing"

	"wafer/api"
	"wafer/env"
	"wafer/pattern"
	"wafer/target"
)

// attempt: a pattern that is tried on a value: what Term is handed, and what stands around.
type attempt struct {
	p     api.Pat
	of    api.Type // the pattern's type, with some type for all that is open
	on    string
	outs  map[int]string
	extra []string // names that stand free in yes and no, beside the pattern's
}

// yes: a term that comes to 1 and all that it names.
func (a attempt) yes() api.TM {
	return xpair(xint(1), list(append(binders(a.p), a.extra...)...))
}

// no: a term that comes to 0 and all that it names: the pattern's names, too, which it means by what they are outside.
func (a attempt) no() api.TM {
	return xpair(xint(0), list(append(binders(a.p), a.extra...)...))
}

// outside: what stands around, with the value that is tried.
func (a attempt) outside(x any) scope {
	s := around(a.outs)
	for _, name := range append(binders(a.p), a.extra...) {
		if _, there := s[name]; !there {
			s[name] = "outside " + name
		}
	}
	s[a.on] = x
	return s
}

func (a attempt) term() api.TM {
	return pattern.Term(a.p, place(a.outs), a.on, a.yes(), a.no())
}

// want: what the term must come to: what yes or no comes to where it stands.
func (a attempt) want(x api.Value) any {
	s := a.outside(meant(x, a.of))
	names, _, ok := plainFits(a.p, x)
	if !ok {
		return mean(a.no(), s)
	}
	for i, part := range partsOf(a.p, x, a.of) {
		s = s.with(names[i], part)
	}
	return mean(a.yes(), s)
}

// partsOf: what the names of a pattern that fits stand for, where terms run.
func partsOf(p api.Pat, x api.Value, t api.Type) []any {
	switch p.Kind {
	case api.PVar:
		return []any{meant(x, t)}
	case api.PPair:
		return append(partsOf(p.Kids[0], x.Kids[0], t.Kids[0]), partsOf(p.Kids[1], x.Kids[1], t.Kids[1])...)
	case api.PCon:
		for _, c := range of(t.N).ctors {
			if c.Name == x.Name && len(c.Args) > 0 {
				return partsOf(p.Kids[0], x.Kids[0], c.Args[0])
			}
		}
	}
	return nil
}

// runs: the term goes on as the chapter says.
func (a attempt) runs(t *testing.T, x api.Value) {
	t.Helper()
	m := a.term()
	got, want := mean(m, a.outside(meant(x, a.of))), a.want(x)
	if !reflect.DeepEqual(got, want) {
		t.Fatalf("%s of %s on %s: %v, want %v: %s", brief(tell(a.p)), brief(tell(x)), a.on, got, want, brief(target.Show(m)))
	}
}

// bound: the names that are bound in a term, but for those in terms that are one with some others.
func bound(m api.TM, but ...api.TM) []string {
	for _, other := range but {
		if target.SameTerm(m, other) {
			return nil
		}
	}
	var l []string
	switch m.Kind {
	case api.XLam, api.XLet, api.XOpen:
		l = append(l, m.Name)
	case api.XFix:
		l = append(l, m.Name, m.Labels[0])
	case api.XCase:
		l = append(l, m.Labels...)
	}
	for _, kid := range m.Kids {
		l = append(l, bound(kid, but...)...)
	}
	return l
}

// named: what the term binds beside the pattern's names begins with $, stands free in neither yes nor no, and is not on.
func (a attempt) named(t *testing.T) {
	t.Helper()
	m, yes, no := a.term(), a.yes(), a.no()
	taken := append(append(target.FreeNames(yes), target.FreeNames(no)...), a.on)
	own := binders(a.p)
	found := bound(m, yes, no)
	for _, name := range found {
		if slices.Contains(own, name) {
			continue
		}
		if !strings.HasPrefix(name, "$") || slices.Contains(taken, name) {
			t.Fatalf("%s: %s is bound, on is %s: %s", brief(tell(a.p)), name, a.on, brief(target.Show(m)))
		}
	}
	for _, name := range own {
		if !slices.Contains(found, name) {
			t.Fatalf("%s: %s is not bound", brief(tell(a.p)), name)
		}
	}
	if err := target.RightTerm(m); err != api.OK {
		t.Fatalf("%s: %v: the term is not right", brief(tell(a.p)), err)
	}
}

// TestP1502Kinds: each kind, alone and nested, on values that it fits and on others.
func TestP1502Kinds(t *testing.T) {
	x, y, z := name("x"), name("y"), name("z")
	one, empty := vcon("Cons", vpair(vint(1), vcon("Nil"))), vcon("Nil")
	longer := vcon("Cons", vpair(vint(2), one))
	ints, list2 := pair(integer(), integer()), pair(stamp(1), stamp(1))
	for _, c := range []struct {
		p      api.Pat
		of     api.Type
		values []api.Value
	}{
		{anything(), integer(), []api.Value{vint(0), vint(5)}},
		{x, integer(), []api.Value{vint(0), vint(-5)}},
		{x, stamp(1), []api.Value{empty, longer}},
		{number(0), integer(), []api.Value{vint(0), vint(1), vint(-1)}},
		{number(1<<63 - 1), integer(), []api.Value{vint(1<<63 - 1), vint(-1 << 63), vint(0)}},
		{truth(), boolean(), []api.Value{vbool(0), vbool(1)}},
		{untruth(), boolean(), []api.Value{vbool(0), vbool(1)}},
		{nothing(), unit(), []api.Value{vunit()}},
		{two(x, y), ints, []api.Value{vpair(vint(1), vint(2))}},
		{two(anything(), y), ints, []api.Value{vpair(vint(1), vint(2))}},
		{two(x, anything()), ints, []api.Value{vpair(vint(1), vint(2))}},
		{two(number(1), number(2)), ints, []api.Value{vpair(vint(1), vint(2)), vpair(vint(1), vint(1)), vpair(vint(2), vint(2)), vpair(vint(2), vint(1))}},
		{two(x, number(2)), ints, []api.Value{vpair(vint(1), vint(2)), vpair(vint(2), vint(1))}},
		{two(number(2), x), ints, []api.Value{vpair(vint(1), vint(2)), vpair(vint(2), vint(1))}},
		{two(truth(), two(untruth(), x)), pair(boolean(), pair(boolean(), unit())), []api.Value{vpair(vbool(1), vpair(vbool(0), vunit())), vpair(vbool(1), vpair(vbool(1), vunit())), vpair(vbool(0), vpair(vbool(0), vunit()))}},
		{two(nothing(), x), pair(unit(), integer()), []api.Value{vpair(vunit(), vint(3))}},
		{con("Nil"), stamp(1), []api.Value{empty, one, longer}},
		{con("Cons", anything()), stamp(1), []api.Value{empty, one, longer}},
		{con("Cons", x), stamp(1), []api.Value{empty, one, longer}},
		{con("Cons", two(x, y)), stamp(1), []api.Value{empty, one, longer}},
		{con("Cons", two(x, con("Nil"))), stamp(1), []api.Value{empty, one, longer}},
		{con("Cons", two(x, con("Cons", two(y, z)))), stamp(1), []api.Value{empty, one, longer}},
		{con("Cons", two(number(2), con("Cons", two(number(1), con("Nil"))))), stamp(1), []api.Value{empty, one, longer}},
		{two(con("Cons", two(x, anything())), con("Cons", two(y, z))), list2, []api.Value{vpair(one, longer), vpair(empty, longer), vpair(one, empty), vpair(longer, one)}},
		{two(con("Cons", x), y), list2, []api.Value{vpair(one, empty), vpair(empty, one)}},
		{con("Dot"), stamp(9), []api.Value{vcon("Dot")}},
		{con("Only", two(x, y)), stamp(3), []api.Value{vcon("Only", vpair(vunit(), vint(4)))}},
		{con("Only", two(nothing(), number(4))), stamp(3), []api.Value{vcon("Only", vpair(vunit(), vint(4))), vcon("Only", vpair(vunit(), vint(5)))}},
		{con("Stop"), stamp(2), []api.Value{vcon("Stop"), vcon("Leaf", vbool(1)), vcon("Mark", one)}},
		{con("Leaf", untruth()), stamp(2), []api.Value{vcon("Stop"), vcon("Leaf", vbool(1)), vcon("Leaf", vbool(0))}},
		{con("Node", two(con("Leaf", x), y)), stamp(2), []api.Value{vcon("Stop"), vcon("Node", vpair(vcon("Leaf", vbool(1)), vcon("Stop"))), vcon("Node", vpair(vcon("Stop"), vcon("Leaf", vbool(1))))}},
		{con("M.Red"), stamp(4), []api.Value{vcon("Red"), vcon("Green"), vcon("Blue")}},
		{con("M.Green"), stamp(4), []api.Value{vcon("Red"), vcon("Green"), vcon("Blue")}},
		{con("M.Blue"), stamp(4), []api.Value{vcon("Red"), vcon("Green"), vcon("Blue")}},
		{con("M.Cons", x), stamp(5), []api.Value{vcon("Cons", vbool(1)), vcon("End")}},
		{con("M.N.None"), stamp(6), []api.Value{vcon("None"), vcon("Wrap", vpair(vcon("Blue"), vpair(vint(1), one)))}},
		{con("M.N.Wrap", two(con("M.Blue"), two(x, con("Cons", y)))), stamp(6), []api.Value{vcon("None"), vcon("Wrap", vpair(vcon("Blue"), vpair(vint(1), one))), vcon("Wrap", vpair(vcon("Red"), vpair(vint(1), one))), vcon("Wrap", vpair(vcon("Blue"), vpair(vint(1), empty)))}},
	} {
		fits, others := 0, 0
		for _, value := range c.values {
			if _, _, ok := plainFits(c.p, value); ok {
				fits++
			} else {
				others++
			}
			for _, on := range []string{"on", "x", "y", "z", "$0", "$1", "$3", "M0"} {
				for _, extra := range [][]string{nil, {"$0"}, {"$0", "$1", "$2", "on", "x", "$no", "$"}, {"$1", "$4", "$7", on}} {
					a := attempt{p: c.p, of: c.of, on: on, extra: extra}
					a.runs(t, value)
					a.named(t)
				}
			}
		}
		if fits == 0 {
			t.Errorf("%s fits none of the values", tell(c.p))
		}
	}
}

// TestP1502Functions: what a constructor keeps may be a function.
func TestP1502Functions(t *testing.T) {
	a := attempt{p: con("M.N.Keep", name("f")), of: stamp(6), on: "on"}
	f := function(func(any) any { return int64(7) })
	got := mean(pattern.Term(a.p, place(nil), "on", app(v("f"), xint(0)), xint(1)), a.outside(injection{2, f}))
	if got != int64(7) {
		t.Errorf("%v", got)
	}
	if got := mean(pattern.Term(a.p, place(nil), "on", app(v("f"), xint(0)), xint(1)), a.outside(injection{1, unitValue{}})); got != int64(1) {
		t.Errorf("%v", got)
	}
}

// TestP1502Caught: what takes a datatype apart may be called like a name of the pattern, or like one that Term would bind beside: it means what it is outside.
func TestP1502Caught(t *testing.T) {
	x, y := name("x"), name("y")
	value := vcon("Node", vpair(vcon("Mark", vcon("Cons", vpair(vint(1), vcon("Nil")))), vcon("Leaf", vbool(1))))
	for _, p := range []api.Pat{
		con("Node", two(x, con("Leaf", y))),
		con("Node", two(con("Mark", con("Cons", two(x, con("Nil")))), con("Leaf", y))),
		con("Node", two(con("Mark", x), con("Leaf", truth()))),
		con("Node", two(con("Mark", con("Cons", x)), y)),
		con("Node", two(con("Mark", con("Cons", two(number(2), x))), y)),
	} {
		for _, outs := range []map[int]string{{2: "x", 1: "y"}, {2: "$0", 1: "$1"}, {2: "$1", 1: "$3"}, {2: "$2", 1: "$0"}, {2: "$3", 1: "$4"}, {2: "$5", 1: "$6"}} {
			for _, on := range []string{"on", "$0", "$7"} {
				if outs[1] == on || outs[2] == on {
					continue
				}
				a := attempt{p: p, of: stamp(2), on: on, outs: outs}
				a.runs(t, value)
				a.named(t)
			}
		}
	}
}

// TestP1502Own: yes and no may bind the names themselves that Term binds beside, or those of the pattern.
func TestP1502Own(t *testing.T) {
	p := two(name("y"), con("Cons", two(name("x"), con("Cons", two(number(1), name("z"))))))
	yes := let("$0", v("x"), let("$1", xpair(v("$0"), v("y")), let("x", v("z"), xpair(v("$1"), v("x")))))
	no := let("$0", v("x"), let("x", xint(5), let("$2", xint(6), list("$0", "x", "$2", "$1"))))
	e, s := place(nil), around(nil)
	s["x"], s["$1"] = "outside x", "outside $1"
	m := pattern.Term(p, e, "on", yes, no)
	tail := vcon("Cons", vpair(vint(1), vcon("Nil")))
	fits, other := vpair(vint(8), vcon("Cons", vpair(vint(9), tail))), vpair(vint(8), vcon("Cons", vpair(vint(9), vcon("Nil"))))
	of := pair(integer(), stamp(1))
	if got, want := mean(m, s.with("on", meant(fits, of))), any(pairValue{pairValue{int64(9), int64(8)}, injection{0, unitValue{}}}); !reflect.DeepEqual(got, want) {
		t.Errorf("%v, want %v", got, want)
	}
	if got, want := mean(m, s.with("on", meant(other, of))), mean(no, s); !reflect.DeepEqual(got, want) {
		t.Errorf("%v, want %v", got, want)
	}
}

// TestP1502Not: no is not looked at, if the pattern fits; nor yes, if it does not.
func TestP1502Not(t *testing.T) {
	e, fail := place(nil), api.TM{Kind: api.XFail, Types: []api.TT{{Kind: api.GInt}}}
	p := con("Cons", two(number(1), con("Cons", two(number(2), con("Nil")))))
	tail := func(n int64) api.Value { return vcon("Cons", vpair(vint(n), vcon("Nil"))) }
	for n, fits := range map[int64]bool{2: true, 3: false} {
		value := vcon("Cons", vpair(vint(1), tail(n)))
		s := around(nil).with("on", meant(value, stamp(1)))
		yes, no := xint(7), fail
		if !fits {
			yes, no = fail, xint(7)
		}
		if got := mean(pattern.Term(p, e, "on", yes, no), s); got != int64(7) {
			t.Errorf("%v", got)
		}
	}
}

// TestP1502Chance: patterns and values by chance; names that are taken, by chance.
func TestP1502Chance(t *testing.T) {
	fits, others := 0, 0
	for seed := range int64(6000) {
		m := newMaker(seed)
		a := attempt{of: m.plain(4), on: chosen(m, "on", "x0", "y0", "y1", "$0", "$1", "$2", "$5")}
		a.p = m.patOf(a.of, 9)
		for _, name := range []string{"$0", "$1", "$2", "$3", "$4", "$6", "on", "x0"} {
			if m.Intn(3) == 0 {
				a.extra = append(a.extra, name)
			}
		}
		if m.Intn(3) == 0 {
			a.outs = map[int]string{1: chosen(m, "$0", "$3", "x1"), 2: chosen(m, "$2", "$4", "y1")}
			a.on = "on"
		}
		a.named(t)
		for range 4 {
			x := m.like(a.p, a.of, 5)
			if _, _, ok := plainFits(a.p, x); ok {
				fits++
			} else {
				others++
			}
			a.runs(t, x)
		}
	}
	if fits < 5000 || others < 5000 {
		t.Errorf("%d that fit, %d others: the test does not try much", fits, others)
	}
}

// TestP1502Chain: of many patterns, each tried where the one ahead of it does not fit, the term stays small, and goes on as the first that fits.
func TestP1502Chain(t *testing.T) {
	const count = 200
	e := place(nil)
	m := xint(-1)
	var size int
	for n := count - 1; n >= 0; n-- {
		m = pattern.Term(con("Node", two(con("Mark", con("Cons", two(number(int64(n)), anything()))), con("Leaf", truth()))), e, "on", xint(int64(n)), m)
		if n == count-1 {
			size = target.Nodes(m, 1<<30)
		}
	}
	if all := target.Nodes(m, 1<<30); all > 2*count*size {
		t.Errorf("%d nodes, %d of one", all, size)
	}
	for _, n := range []int64{0, 1, 57, count - 1, count} {
		value := vcon("Node", vpair(vcon("Mark", vcon("Cons", vpair(vint(n), vcon("Nil")))), vcon("Leaf", vbool(1))))
		want := n
		if n == count {
			want = -1
		}
		if got := mean(m, around(nil).with("on", meant(value, stamp(2)))); got != want {
			t.Errorf("%v, want %v", got, want)
		}
	}
}

// TestP1502Others: of patterns that Check does not take, and in environments that are not sound, some term comes.
func TestP1502Others(t *testing.T) {
	some := stores()[1]
	for seed := range int64(10000) {
		m := newMaker(seed)
		p := m.patOf(m.typeOf(4), 6)
		for range m.Intn(4) {
			p = m.spoil(p)
		}
		e := place(nil)
		if m.Intn(2) == 0 {
			e = m.wildPlace()
		}
		pattern.Term(p, e, chosen(m, "", "x", "$0"), v("x"), v("$1"))
		pattern.Check(p, e, some.Clone())
	}
	pattern.Term(api.Pat{}, env.Env{}, "", api.TM{}, api.TM{})
}

// wildPlace: an environment that is not sound.
func (m *maker) wildPlace() env.Env {
	e := place(nil)
	types := []api.Type{{}, meta(0), meta(1), meta(9), node(api.TGen, 0), node(api.TPair, 0), node(99, -1, integer()), pair(meta(0), meta(1)), integer(), wide(700, meta(2)), stamp(-1)}
	for i := range e.Cons {
		c := &e.Cons[i]
		switch m.Intn(6) {
		case 0:
			c.T = chosen(m, types...)
		case 1:
			c.Args = []api.Type{chosen(m, types...)}
		case 2:
			c.Args = []api.Type{chosen(m, types...), chosen(m, types...)}
		case 3:
			c.N = chosen(m, -1, 7, -1<<63, 1<<63-1)
		case 4:
			c.All = nil
		case 5:
			c.Out = api.TM{}
		}
	}
	return e
}
