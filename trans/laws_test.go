package trans_test

import (
	"slices"
	"testing"

	"wafer/api"
	"wafer/env"
	"wafer/kernel"
	"wafer/names"
	"wafer/target"
	"wafer/trans"
	"wafer/types"
)

// made: what a call made, which must have no error.
func made(t *testing.T) func(api.TT, api.Errno) api.TT {
	return func(x api.TT, code api.Errno) api.TT {
		t.Helper()
		if code != api.OK {
			t.Fatalf("of a right thing: %v", code)
		}
		if target.RightType(x) != api.OK {
			t.Fatalf("%s is not right", brief(tell(x)))
		}
		return x
	}
}

// smalls: all closed types with at most so many nodes, of few stamps.
func smalls(nodes int) []api.Type {
	l := []api.Type{integer(), boolean(), unit(), stamp(0), stamp(1), stamp(top)}
	if nodes < 3 {
		return l
	}
	within := smalls(nodes - 2)
	for _, a := range within {
		for _, b := range within {
			if types.Size(a)+types.Size(b) < nodes {
				l = append(l, fn(a, b), pair(a, b))
			}
		}
	}
	return l
}

// TestP1401Types: types become one just where they are the same.
func TestP1401Types(t *testing.T) {
	is := made(t)
	l := smalls(3)
	for _, a := range l {
		for _, b := range l {
			if got := target.SameType(is(trans.Type(a)), is(trans.Type(b))); got != types.Same(a, b) {
				t.Fatalf("%s and %s: %v", tell(a), tell(b), got)
			}
		}
	}
	// Each of many has a text of its own, and texts tell just types that are one.
	texts := map[string]string{}
	for _, a := range smalls(5) {
		text := target.Text(is(trans.Type(a)))
		if other, ok := texts[text]; ok && other != tell(a) {
			t.Fatalf("%s and %s become %s", tell(a), other, text)
		}
		texts[text] = tell(a)
	}
	for seed := range int64(4000) {
		m := newMaker(2 * seed)
		a, b := m.typeOf(6, 0), m.typeOf(6, 0)
		if m.Intn(2) == 0 {
			b = m.other(a)
		}
		if got := target.SameType(is(trans.Type(a)), is(trans.Type(b))); got != types.Same(a, b) {
			t.Fatalf("%d: %s and %s: %v", seed, brief(tell(a)), brief(tell(b)), got)
		}
	}
}

// other: a type with one node, by chance, that may be another one; the same type, if there is none.
func (m maker) other(t api.Type) api.Type {
	if len(t.Kids) == 0 || m.Intn(8) == 0 {
		return m.typeOf(1, 0)
	}
	t.Kids = slices.Clone(t.Kids)
	i := m.Intn(len(t.Kids))
	t.Kids[i] = m.other(t.Kids[i])
	return t
}

// TestP1401Schemes: right schemes become one just where they are the same.
func TestP1401Schemes(t *testing.T) {
	is := made(t)
	l := []api.Scheme{of(0, integer()), of(0, stamp(0)), of(0, stamp(1)), of(1, gen(0)), of(1, fn(gen(0), gen(0))), of(2, fn(gen(0), gen(1))), of(1, fn(gen(0), stamp(0))), of(1, fn(stamp(0), gen(0))), of(1, fn(stamp(1), gen(0))), of(0, fn(stamp(0), stamp(1))), of(0, fn(stamp(1), stamp(0)))}
	for seed := range int64(150) {
		m := newMaker(2 * seed)
		l = append(l, m.scheme(), m.scheme())
	}
	same := 0
	for _, a := range l {
		for _, b := range l {
			got := target.SameType(is(trans.Scheme(a)), is(trans.Scheme(b)))
			if got != types.SameScheme(a, b) {
				t.Fatalf("%s and %s: %v", tell(a), tell(b), got)
			}
			if got {
				same++
			}
		}
	}
	if same <= len(l) {
		t.Errorf("no two of %d are the same", len(l))
	}
}

// TestP1402: putting closed types in for stamps, and then turning, is turning, and then putting their target types in.
func TestP1402(t *testing.T) {
	is := made(t)
	for seed := range int64(6000) {
		m := newMaker(2 * seed)
		x, s, by := m.typeOf(5, 0), m.scheme(), m.typeOf(3, 0)
		n := m.stampNumber()
		to := is(trans.Type(by))
		put, code := types.Replace(x, api.TStamp, ints(n), []api.Type{by})
		if code != api.OK {
			t.Fatalf("%d: %v", seed, code)
		}
		if got, want := is(trans.Type(put)), target.Put(is(trans.Type(x)), n, to); !target.SameType(got, want) {
			t.Fatalf("%d: %s for %d in %s: %s, want %s", seed, tell(by), n, brief(tell(x)), target.Text(got), target.Text(want))
		}
		putScheme, code := types.ReplaceScheme(s, ints(n), []api.Type{by})
		if code != api.OK {
			t.Fatalf("%d: %v", seed, code)
		}
		if got, want := is(trans.Scheme(putScheme)), target.Put(is(trans.Scheme(s)), n, to); !target.SameType(got, want) {
			t.Fatalf("%d: %s for %d in %s: %s, want %s", seed, tell(by), n, brief(tell(s)), target.Text(got), target.Text(want))
		}
	}
	// The numbers that a scheme's binders had, and come to have.
	s := of(2, fn(gen(0), pair(stamp(3), gen(1))))
	for n := range 9 {
		put, _ := types.ReplaceScheme(s, ints(3), []api.Type{fn(stamp(n), stamp(3))})
		got := is(trans.Scheme(put))
		want := target.Put(is(trans.Scheme(s)), 3, gfn(v(n), v(3)))
		if !target.SameType(got, want) {
			t.Errorf("%s, want %s", target.Text(got), target.Text(want))
		}
	}
}

// TestP1402Several: several stamps at once, each by way of a number that stands nowhere.
func TestP1402Several(t *testing.T) {
	is := made(t)
	for seed := range int64(3000) {
		m := newMaker(2 * seed)
		x, c := m.typeOf(5, 0), api.Ctor{Args: []api.Type{m.typeOf(4, 0)}}
		var from []int
		var to []api.Type
		for n := range m.most {
			from, to = append(from, n), append(to, m.typeOf(2, 0))
		}
		both := func(t api.TT) api.TT {
			for i, n := range from {
				t = target.Put(t, n, v(1<<40+i))
			}
			for i, by := range to {
				t = target.Put(t, 1<<40+i, is(trans.Type(by)))
			}
			return t
		}
		put, _ := types.Replace(x, api.TStamp, from, to)
		if got, want := is(trans.Type(put)), both(is(trans.Type(x))); !target.SameType(got, want) {
			t.Fatalf("%d: %s: %s, want %s", seed, brief(tell(x)), target.Text(got), target.Text(want))
		}
		arg, _ := types.Replace(c.Args[0], api.TStamp, from, to)
		got, want := is(trans.Sum(ctors(ctor("A"), ctor("B", arg)))), both(is(trans.Sum(ctors(ctor("A"), c))))
		if !target.SameType(got, want) {
			t.Fatalf("%d: %s: %s, want %s", seed, brief(tell(c)), target.Text(got), target.Text(want))
		}
	}
}

// TestP1402Renaming: renaming free stamps of an Abs, and then turning it, is turning it, and then putting variables in.
func TestP1402Renaming(t *testing.T) {
	is := made(t)
	moved := 0
	for seed := range int64(3000) {
		m := newMaker(2 * seed)
		a := m.abs(3)
		n, to := m.stampNumber(), m.stampNumber()
		ahead := is(trans.Abs(a))
		got, want := is(trans.Abs(env.Rename(a, ints(n), ints(to)))), target.Put(ahead, n, v(to))
		if !target.SameType(got, want) {
			t.Fatalf("%d: %d for %d in %s: %s, want %s", seed, to, n, brief(tell(a)), target.Text(got), target.Text(want))
		}
		if !target.SameType(ahead, got) {
			moved++
		}
	}
	if moved < 500 {
		t.Errorf("only %d have changed", moved)
	}
}

// bare: a structure without its types that have no Ctors, and without its signatures, all through: what comes into the target.
func bare(s api.Str) api.Str {
	out := api.Str{Vals: s.Vals}
	for _, m := range s.Types {
		if len(m.Ctors) > 0 {
			out.Types = append(out.Types, m)
		}
	}
	for _, m := range s.Subs {
		m.S = bare(m.S)
		out.Subs = append(out.Subs, m)
	}
	for _, m := range s.Funs {
		m.F.Arg, m.F.Res.S = bare(m.F.Arg), bare(m.F.Res.S)
		out.Funs = append(out.Funs, m)
	}
	return out
}

// rising: numbers rising, each once.
func rising(l []int) []int {
	l = slices.Clone(l)
	slices.Sort(l)
	return slices.Compact(l)
}

// TestP1403: what is free in what comes are the stamps that are not bound.
func TestP1403(t *testing.T) {
	is := made(t)
	free := func(what any, x api.TT, want []int) {
		t.Helper()
		want = rising(want)
		if got := target.FreeTypes(x); !slices.Equal(got, want) {
			t.Fatalf("%s: %v are free, want %v", brief(tell(what)), got, want)
		}
		if !kernel.InScope(x, want) {
			t.Fatalf("%s: not in scope of %v", brief(tell(what)), want)
		}
	}
	wild := 0
	for seed := range int64(12000) {
		m := newMaker(seed)
		x, s, l, c, n, a, f := m.typeOf(5, 0), m.scheme(), m.ctors(), m.ctor(), m.stampNumber(), m.abs(3), m.functor(2)
		if m.wild {
			// Of wild ones those that come into the target at all.
			if y, code := trans.Abs(a); code == api.OK {
				wild++
				free(a, y, env.Free(api.Abs{Stamps: a.Stamps, S: bare(a.S)}))
			}
			continue
		}
		free(x, is(trans.Type(x)), types.Stamps(x))
		free(s, is(trans.Scheme(s)), types.Stamps(s.T))
		var of []int
		for _, c := range l {
			for _, x := range c.Args {
				of = append(of, types.Stamps(x)...)
			}
		}
		free(l, is(trans.Sum(l)), of)
		free(l, is(trans.Rep(n, l)), slices.DeleteFunc(slices.Clone(of), func(k int) bool { return k == n }))
		of = ints(n)
		for _, x := range c.Args {
			of = append(of, types.Stamps(x)...)
		}
		free(c, is(trans.Con(n, c)), of)
		free(a.S, is(trans.Str(a.S)), env.Free(api.Abs{S: bare(a.S)}))
		free(a, is(trans.Abs(a)), env.Free(api.Abs{Stamps: a.Stamps, S: bare(a.S)}))
		f.Arg, f.Res.S = bare(f.Arg), bare(f.Res.S)
		free(f, is(trans.Fun(f)), env.Free(api.Abs{S: str(api.FunMember{Name: "F", F: f})}))
	}
	if wild < 1000 {
		t.Errorf("only %d wild ones came", wild)
	}
}

// labelled: how often a label's thing stands in a structure.
func labelled(s api.Str, kind int, name string) int {
	n := 0
	for _, m := range s.Types {
		if kind == 4 && m.Name == name && len(m.Ctors) > 0 {
			n++
		}
		for _, c := range m.Ctors {
			if kind == 3 && c.Name == name {
				n++
			}
		}
	}
	for _, m := range s.Vals {
		if kind == 1 && m.Name == name {
			n++
		}
	}
	for _, m := range s.Subs {
		if kind == 2 && m.Name == name {
			n++
		}
	}
	for _, m := range s.Funs {
		if kind == 2 && m.Name == name {
			n++
		}
	}
	return n
}

// wantLabels: the labels of a structure are in order, each once, as many as it has things, and (of right names) each tells what it is for.
func wantLabels(t *testing.T, s api.Str, x api.TT, named bool) {
	t.Helper()
	if len(x.Labels) != len(x.Kids) || len(x.Labels) != len(plainLabels(s)) {
		t.Fatalf("%s: %d labels, %d kids", brief(tell(s)), len(x.Labels), len(x.Kids))
	}
	for i, label := range x.Labels {
		if i > 0 && names.Cmp(x.Labels[i-1], label) >= 0 {
			t.Fatalf("%s: %q are not in order", brief(tell(s)), x.Labels)
		}
		if kind, name := names.Label(label); named && labelled(s, kind, name) != 1 {
			t.Fatalf("%s: what is %q?", brief(tell(s)), label)
		}
	}
	at := func(label string) api.TT { return x.Kids[slices.Index(x.Labels, label)] }
	for _, m := range s.Subs {
		wantLabels(t, m.S, at(m.Name), named)
	}
	for _, m := range s.Funs {
		y := at(m.Name)
		for range m.F.Stamps {
			y = y.Kids[0]
		}
		wantLabels(t, m.F.Arg, y.Kids[0], named)
		y = y.Kids[1]
		for range m.F.Res.Stamps {
			y = y.Kids[0]
		}
		wantLabels(t, m.F.Res.S, y, named)
	}
}

// TestP1404: labels of structures by chance, right and wild.
func TestP1404(t *testing.T) {
	wild, most := 0, 0
	for seed := range int64(8000) {
		m := newMaker(seed)
		s := m.str(3)
		x, code := trans.Str(s)
		if code != api.OK {
			if !m.wild {
				t.Fatalf("%d: %v", seed, code)
			}
			continue
		}
		if m.wild {
			wild++
		}
		most = max(most, len(x.Labels))
		wantLabels(t, s, x, !m.wild)
	}
	if wild < 1000 || most < 10 {
		t.Errorf("%d wild ones, %d labels at most", wild, most)
	}
}

// TestKernel: the kernel takes the terms that make a datatype's values and take them apart at the types that are told of them, with its representation for its stamp.
func TestKernel(t *testing.T) {
	is := made(t)
	for seed := range int64(1500) {
		m := newMaker(2 * seed)
		n, l := m.stampNumber(), m.ctors()
		l = append(l, ctor("Last", pair(integer(), stamp(n))))
		s := unlike(str(typ("t", stamp(n), l...)))
		if len(s.Types) == 0 {
			continue
		}
		rep := is(trans.Rep(n, l))
		unfolded := target.Put(is(trans.Sum(l)), n, rep)
		whole := target.Put(is(trans.Str(s)), n, rep)
		terms := map[string]api.TM{"out t": {Kind: api.XLam, Name: "x", Types: []api.TT{rep}, Kids: []api.TM{{Kind: api.XUnfold, Kids: []api.TM{{Kind: api.XVar, Name: "x"}}}}}}
		for i, c := range l {
			of := api.TM{Kind: api.XUnit}
			if len(c.Args) > 0 {
				of = api.TM{Kind: api.XVar, Name: "x"}
			}
			x := api.TM{Kind: api.XFold, Types: []api.TT{rep}, Kids: []api.TM{{Kind: api.XInj, N: i, Types: []api.TT{unfolded}, Kids: []api.TM{of}}}}
			if len(c.Args) > 0 {
				x = api.TM{Kind: api.XLam, Name: "x", Types: []api.TT{target.Put(is(trans.Type(c.Args[0])), n, rep)}, Kids: []api.TM{x}}
			}
			terms[c.Name+"()"] = x
		}
		x := api.TM{Kind: api.XRec, Labels: whole.Labels}
		for _, label := range whole.Labels {
			x.Kids = append(x.Kids, terms[label])
		}
		hidden := is(trans.Abs(api.Abs{Stamps: ints(n), S: s}))
		x = api.TM{Kind: api.XPack, Types: []api.TT{rep, hidden}, Kids: []api.TM{x}}
		got, code := kernel.Check(x, target.FreeTypes(hidden), nil)
		if code != api.OK || !target.SameType(got, hidden) {
			t.Fatalf("%d: %s: %v", seed, brief(tell(s)), code)
		}
	}
}
