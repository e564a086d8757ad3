package modules_test

import (
	"fmt"
	"slices"
	"strings"
	"testing"

	"wafer/api"
	"wafer/env"
	"wafer/kernel"
	"wafer/modules"
	"wafer/sigs"
	"wafer/trans"
)

// tally: how often things came.
type tally map[string]int

// look: counts what stands in declarations.
func (c tally) look(l []api.Dec) {
	for _, d := range l {
		c[fmt.Sprint("dec ", d.Kind)]++
		for _, m := range d.Mods {
			c.mod(m)
		}
	}
}

func (c tally) mod(m api.Mod) {
	c[fmt.Sprint("mod ", m.Kind)]++
	c.look(m.Decs)
	for _, in := range m.Mods {
		c.mod(in)
	}
}

// end: counts how a run ends.
func (c tally) end(s string) {
	s = s[:strings.LastIndex(s, " in ")]
	if s = s[strings.LastIndex(s, " ")+1:]; strings.HasPrefix(s, "Err") {
		c["run "+s]++
	} else {
		c["run"]++
	}
}

// enough: did the test try something of each?
func (c tally) enough(t *testing.T, least int, what ...string) {
	t.Helper()
	for _, w := range what {
		if c[w] < least {
			t.Errorf("%q came %d times: the test does not try much: %v", w, c[w], c)
		}
	}
}

func everyKind() []string {
	var l []string
	for kind := api.DVal; kind <= api.DFunctor; kind++ {
		l = append(l, fmt.Sprint("dec ", kind))
	}
	for kind := api.MPath; kind <= api.MLet; kind++ {
		l = append(l, fmt.Sprint("mod ", kind))
	}
	return l
}

// TestByChance: declarations come to what the chapter's words say, or have that error; the kernel takes what is made at its type (P1906), no stamp is free in it (P1909), and it goes on as its source does.
func TestByChance(t *testing.T) {
	t.Parallel()
	empty, count := placed(env.Env{}), tally{}
	for seed := range int64(1500) {
		m := newMaker(seed)
		l := m.program(place{}, 2+m.Intn(7), 3)
		next := m.Intn(50)
		got := empty.decs(t, l, next)
		if strings.HasPrefix(got, "Err") {
			count[strings.Fields(got)[0]]++
			continue
		}
		count.look(l)
		is, _, _ := modules.Decs(env.Env{}, l, next)
		fuel := 3 + m.Intn(60)
		ran, want := meant(is.X, fuel, is.A.S), runs(l, fuel, is.A.S)
		if ran != want {
			t.Fatalf("%d: %s with %d:\n%s, want\n%s", seed, show(l), fuel, ran, want)
		}
		count.end(want)
		if len(is.A.Stamps) > 2 {
			count["stamps"]++
		}
	}
	count.enough(t, 20, "ErrTwice", "ErrUnbound", "ErrType", "ErrMatch", "stamps")
	count.enough(t, 1, "run ErrZero")
	count.enough(t, 20, "run ErrFuel", "run ErrCase")
	count.enough(t, 200, append(everyKind(), "run")...)
}

// tangle: an environment as a plain one, with its terms made otherwise: names that those who make terms bind, and terms that are no paths. With what the kernel is told, and what a run.
type tangle struct {
	spot
	names []string
	of    map[string]string // what each name was
}

func (m *maker) tangle(e env.Env) tangle {
	e = roomy(e)
	g := tangle{names: []string{
		"x", "y", "z", "f", "g", "h", "b1", "b2", "b3", "a", "$of", "$else", "$", "m", "both", "argument", "result", "t", "A", "B", "C", "F", "K()", "out t",
		"A 1", "B 2", "C 1", "D 2", "A 3", "F 1", "F 2", "out t 1", "out u 2", "environment 1", "environment 2", "environment 3", "environment 4",
	}, of: map[string]string{}}
	m.Shuffle(len(g.names), func(i, j int) { g.names[i], g.names[j] = g.names[j], g.names[i] })
	// The kernel is told of each name but once.
	change := func(x *api.TM, t api.TT) {
		is := x.Name
		for _, used := g.of[x.Name]; used || m.Intn(3) > 0; _, used = g.of[x.Name] {
			if len(g.names) == 0 {
				x.Name += "'"
				continue
			}
			x.Name, g.names = g.names[0], g.names[1:]
		}
		g.l = append(g.l, kernel.Bind{Name: x.Name, T: t})
		g.of[x.Name] = is
		switch m.Intn(6) {
		case 0:
			*x = api.TM{Kind: api.XFst, Kids: []api.TM{{Kind: api.XPair, Kids: []api.TM{*x, {Kind: api.XUnit}}}}}
		case 1:
			name := chosen(m, []string{"x", "A", "A 1", "z"})
			*x = api.TM{Kind: api.XLet, Name: name, Kids: []api.TM{*x, v(name)}}
		case 2:
			*x = sel("l", api.TM{Kind: api.XRec, Labels: []string{"l"}, Kids: []api.TM{*x}})
		}
	}
	for i := range e.Vals {
		change(&e.Vals[i].X, must(trans.Scheme(e.Vals[i].S)))
	}
	for i := range e.Cons {
		c := &e.Cons[i]
		change(&c.X, must(trans.Con(c.T.N, c.All[c.N])))
		sum := must(trans.Sum(c.All))
		change(&c.Out, api.TT{Kind: api.GFn, Kids: []api.TT{{Kind: api.GVar, N: c.T.N}, sum}})
	}
	for i := range e.Subs {
		change(&e.Subs[i].X, must(trans.Str(e.Subs[i].S)))
	}
	for i := range e.Funs {
		change(&e.Funs[i].X, must(trans.Fun(e.Funs[i].F)))
	}
	g.e, g.vars = e, e.Stamps()
	return g
}

// TestInPlaces: so also in an environment, whatever its terms are, beside values that they stand for.
func TestInPlaces(t *testing.T) {
	t.Parallel()
	count := tally{}
	opened, _, err := modules.Decs(env.Env{}, unit(prelude), 0)
	if err != api.OK {
		t.Fatal(code(err))
	}
	w, _, _ := plainDecs(env.Env{}, unit(prelude), 0)
	for seed := range int64(500) {
		m := newMaker(seed)
		g := m.tangle(w.e)
		p := place{e: w.e, next: 50}
		l := m.program(p, 1+m.Intn(5), 2)
		got := g.decs(t, l, 50)
		if x := m.mod(p, 2); m.Intn(3) == 0 {
			if got := g.mod(t, x, 50); !strings.HasPrefix(got, "Err") {
				count["Mod"]++
			}
		}
		if strings.HasPrefix(got, "Err") {
			count["error"]++
			continue
		}
		is, _, _ := modules.Decs(g.e, l, 50)
		fuel := 10 + m.Intn(60)
		ran := ended(fuel, is.A.S, func(r *run) record {
			var b *bound
			there := r.mean(opened.X, nil).(record)
			for name, of := range g.of {
				b = b.with(name, there[of])
			}
			return r.mean(is.X, b).(record)
		})
		want := ended(fuel, is.A.S, func(r *run) record {
			_, b := r.declared(unit(prelude), nil)
			s, _ := r.declared(l, b)
			return s
		})
		if ran != want {
			t.Fatalf("%d: %s with %d:\n%s, want\n%s", seed, show(l), fuel, ran, want)
		}
		count.end(want)
	}
	count.enough(t, 60, "Mod", "error")
	count.enough(t, 250, "run")
}

// TestP1907Sealed: with another structure that is sealed with the same signature what stands behind is taken or not, with the same errors and Abs.
func TestP1907Sealed(t *testing.T) {
	t.Parallel()
	empty, count := placed(env.Env{}), tally{}
	for seed := range int64(900) {
		m := newMaker(seed)
		ahead, p := m.decs(place{}, 1+m.Intn(3), 2)
		one := m.mod(p, 2)
		is, err := plainMod(p.e, one, p.next)
		if err != api.OK {
			continue
		}
		g := m.sig(p.e, is.a.S, 2)
		a, _, err := sigs.Elab(p.e, g, is.next)
		if err != api.OK {
			continue
		}
		first := dstr("Z", behind(api.MSeal, one, g))
		second := dstr("Z", behind(api.MSeal, m.implement(p, a.S), g))
		in, err := p.with(first)
		if _, err2 := p.with(second); err != api.OK || err2 != api.OK {
			continue
		}
		rest, end := m.decs(in, 1+m.Intn(5), 2)
		switch m.Intn(3) {
		case 0:
			rest = append(rest, m.dec(end, 2))
		case 1:
			rest = roomy(append(rest, dval("last", num(1))))
			m.spoilDec(&rest[m.Intn(len(rest))])
		}
		with := func(d api.Dec) (modules.Made, int, api.Errno) {
			l := append(append(slices.Clone(ahead), d), rest...)
			empty.decs(t, l, 0)
			return modules.Decs(env.Env{}, l, 0)
		}
		x, i, err := with(first)
		y, j, err2 := with(second)
		if i != j || err != err2 || !env.SameAbs(x.A, y.A) {
			t.Fatalf("%d: %s and %s, with %s: %s, %s", seed, show([]api.Dec{first}), show([]api.Dec{second}), show(rest), answer(x, i, err), answer(y, j, err2))
		}
		count[code(err)]++
		if len(a.Stamps) > 0 {
			count["hidden"]++
		}
	}
	count.enough(t, 100, "OK", "hidden")
	count.enough(t, 8, "ErrType", "ErrUnbound", "ErrTwice")
}

// TestP1908ByChance: so of functors by chance, by Apply, and by Mod twice.
func TestP1908ByChance(t *testing.T) {
	t.Parallel()
	count := tally{}
	for seed := range int64(1500) {
		m := newMaker(seed)
		_, p := m.decs(place{}, 2+m.Intn(4), 3)
		l := knownIn(p.e).funs
		if len(l) == 0 {
			continue
		}
		path := chosen(m, l)
		g := placed(p.e)
		f, _ := p.e.Fun(path)
		arg, err := modules.Mod(p.e, m.implement(p, f.F.Arg), p.next)
		if err != api.OK {
			continue
		}
		g.apply(t, f, arg)
		first, err := modules.Apply(f, arg)
		if err != api.OK {
			count[code(err)]++
			continue
		}
		again := arg
		again.Next = first.Next
		second := must(modules.Apply(f, again))
		both := common(first.A.Stamps, second.A.Stamps)
		if len(common(both, arg.A.Stamps)) != len(both) || first.Next-arg.Next != len(f.F.Res.Stamps) {
			t.Fatalf("%d: the stamps %v and %v of an argument with %v", seed, first.A.Stamps, second.A.Stamps, arg.A.Stamps)
		}
		if !env.SameAbs(first.A, second.A) {
			t.Fatalf("%d: %s and %s", seed, lines(first.A), lines(second.A))
		}
		count["OK"]++
		if len(f.F.Res.Stamps) > 0 {
			count["generative"]++
		}
		if len(both) > 0 {
			count["of the argument"]++
		}
		if len(first.A.Stamps) < len(arg.A.Stamps)+len(f.F.Res.Stamps) {
			count["left out"]++
		}
	}
	count.enough(t, 20, "of the argument", "left out")
	count.enough(t, 100, "OK", "generative")
}

// TestSealByChance: Seal by itself is what the chapter's words say, seen and hidden.
func TestSealByChance(t *testing.T) {
	t.Parallel()
	count := tally{}
	for seed := range int64(1500) {
		m := newMaker(seed)
		_, p := m.decs(place{}, 1+m.Intn(4), 2)
		is, err := modules.Mod(p.e, m.mod(p, 2), p.next)
		if err != api.OK {
			continue
		}
		g := m.sig(p.e, is.A.S, 2)
		if m.Intn(4) == 0 {
			g = roomy(g)
			m.spoilSig(&g)
		}
		a, next, err := sigs.Elab(p.e, g, is.Next)
		if err != api.OK {
			continue
		}
		w := placed(p.e)
		is.Next = next + m.Intn(3)
		for _, hide := range []bool{false, true} {
			got := w.seal(t, is, a, hide)
			count[strings.Fields(got + " OK")[0]]++
			if !strings.HasPrefix(got, "Err") {
				count[fmt.Sprint("taken ", hide)]++
			}
		}
	}
	count.enough(t, 30, "ErrMatch")
	count.enough(t, 300, "taken false", "taken true")
}
