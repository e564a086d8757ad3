package kernel_test

import (
	"math/rand"
	"slices"
	"strconv"
	"testing"

	"wafer/api"
	"wafer/kernel"
	"wafer/target"
)

// madeOrSpoiled: a term in surroundings, that has a type there or, every other time, may have none.
func madeOrSpoiled(r *rand.Rand) (api.TM, []int, []kernel.Bind) {
	m, _, vars, l := made(r, 6)
	if r.Intn(2) == 0 {
		m = spoiled(r, m)
	}
	return m, vars, l
}

// alike: are two answers the same up to what is bound?
func alike(a api.TT, e api.Errno, b api.TT, f api.Errno) bool {
	return e == f && target.SameType(a, b)
}

// renaming: gives each binder in a term a name or a number that stands nowhere else.
type renaming struct{ next int }

func (g *renaming) fresh() int {
	g.next++
	return 1000 + g.next
}

// types: those of a term, with the numbers that are bound around it given others, and those that they bind too.
func (g *renaming) types(r *rand.Rand, l []api.TT, numbers map[int]int) []api.TT {
	var out []api.TT
	for _, t := range l {
		for n, to := range numbers {
			t = target.Put(t, n, v(to))
		}
		out = append(out, renumbered(r, t))
	}
	return out
}

func (g *renaming) term(r *rand.Rand, m api.TM, names map[string]string, numbers map[int]int) api.TM {
	out := m
	out.Types, out.Kids, out.Labels = g.types(r, m.Types, numbers), nil, slices.Clone(m.Labels)
	if to, ok := names[m.Name]; ok && m.Kind == api.XVar {
		out.Name = to
	}
	hides := func(name string, to *string, names map[string]string) map[string]string {
		*to = "fresh" + strconv.Itoa(g.fresh())
		inner := map[string]string{name: *to}
		for k, old := range names {
			if k != name {
				inner[k] = old
			}
		}
		return inner
	}
	inner, innerNumbers := names, numbers
	switch m.Kind {
	case api.XLam, api.XLet, api.XOpen:
		inner = hides(m.Name, &out.Name, names)
	case api.XFix:
		inner = hides(m.Labels[0], &out.Labels[0], hides(m.Name, &out.Name, names))
	}
	if m.Kind == api.XAll || m.Kind == api.XOpen {
		out.N = g.fresh()
		innerNumbers = map[int]int{m.N: out.N}
		for k, old := range numbers {
			if k != m.N {
				innerNumbers[k] = old
			}
		}
	}
	for i, kid := range m.Kids {
		switch {
		case i == 0 && (m.Kind == api.XLet || m.Kind == api.XOpen || m.Kind == api.XCase):
			out.Kids = append(out.Kids, g.term(r, kid, names, numbers))
		case m.Kind == api.XCase:
			out.Kids = append(out.Kids, g.term(r, kid, hides(m.Labels[i-1], &out.Labels[i-1], names), numbers))
		default:
			out.Kids = append(out.Kids, g.term(r, kid, inner, innerNumbers))
		}
	}
	return out
}

// TestP1001: what is bound may have any names and numbers, but for those numbers that are in scope.
func TestP1001(t *testing.T) {
	r := rand.New(rand.NewSource(1001))
	for range 8000 {
		m, vars, l := madeOrSpoiled(r)
		if target.RightTerm(m) != api.OK || rebinds(m, vars) {
			continue
		}
		g := &renaming{}
		other := g.term(r, m, nil, nil)
		if !target.SameTerm(m, other) {
			t.Fatalf("%s and %s are not one", target.Show(m), target.Show(other))
		}
		a, e := kernel.Check(m, vars, l)
		b, f := kernel.Check(other, vars, l)
		if !alike(a, e, b, f) {
			t.Fatalf("Check(%s): %s, with others bound: %s", target.Show(m), answer(a, e), answer(b, f))
		}
	}
	// A number that is in scope already makes a difference.
	if _, e := kernel.Check(xall(1, xunit()), []int{1}, nil); e != api.ErrTarget {
		t.Errorf("XAll 1 with 1 in scope: %v", e)
	}
	if _, e := kernel.Check(xall(2, xunit()), []int{1}, nil); e != api.OK {
		t.Errorf("XAll 2 with 1 in scope: %v", e)
	}
}

// rebinds: does a term bind a number where it is in scope already?
func rebinds(m api.TM, vars []int) bool {
	number := m.Kind == api.XAll || m.Kind == api.XOpen
	if number && slices.Contains(vars, m.N) {
		return true
	}
	for i, kid := range m.Kids {
		inner := vars
		if number && (m.Kind == api.XAll || i == 1) {
			inner = append(slices.Clip(vars), m.N)
		}
		if rebinds(kid, inner) {
			return true
		}
	}
	return false
}

// TestP1002: names ahead of those that are there, and numbers that the term binds nowhere, change no answer; of a term without a type, if nothing of them stands in it.
func TestP1002(t *testing.T) {
	r := rand.New(rand.NewSource(1002))
	for range 8000 {
		m, vars, l := madeOrSpoiled(r)
		a, e := kernel.Check(m, vars, l)
		names, numbers := []string{"q", "r"}, []int{100, 101, -1}
		if e == api.OK {
			names, numbers = append(names, "f", "g", "x", "y", ""), append(numbers, 0, 1, 2, 3, 4, 5, 6, 7, 8)
		}
		for _, b := range l {
			names = append(names, b.Name)
		}
		var more []kernel.Bind
		for range r.Intn(6) {
			more = append(more, kernel.Bind{Name: chosen(r, names...), T: someType(r, vars, 3)})
		}
		others := slices.Clone(vars)
		for range r.Intn(4) {
			if n := chosen(r, numbers...); !bindsNumber(m, n) {
				others = slices.Insert(others, r.Intn(len(others)+1), n)
			}
		}
		b, f := kernel.Check(m, others, append(more, l...))
		if !alike(a, e, b, f) {
			t.Fatalf("Check(%s, %v, %v): %s, with more in scope, %v, %v: %s", target.Show(m), vars, l, answer(a, e), others, more, answer(b, f))
		}
	}
}

func bindsNumber(m api.TM, n int) bool {
	if (m.Kind == api.XAll || m.Kind == api.XOpen) && m.N == n {
		return true
	}
	return slices.ContainsFunc(m.Kids, func(kid api.TM) bool { return bindsNumber(kid, n) })
}

// TestP1003: with a closed type put in for a variable in scope, a term has its type with that put in.
func TestP1003(t *testing.T) {
	r := rand.New(rand.NewSource(1003))
	changed := 0
	for range 8000 {
		m, _, vars, l := made(r, 6)
		a, e := kernel.Check(m, vars, l)
		if e != api.OK || len(vars) == 0 {
			continue
		}
		n, by := chosen(r, vars...), someType(r, nil, 3)
		var other []kernel.Bind
		for _, b := range l {
			other = append(other, kernel.Bind{Name: b.Name, T: target.Put(b.T, n, by)})
		}
		for _, left := range [][]int{vars, slices.DeleteFunc(slices.Clone(vars), func(k int) bool { return k == n })} {
			b, f := kernel.Check(target.PutIn(m, n, by), left, other)
			if !alike(target.Put(a, n, by), e, b, f) {
				t.Fatalf("Check(%s) with %s for %d: %s, want %s", target.Show(m), target.Text(by), n, answer(b, f), target.Text(target.Put(a, n, by)))
			}
		}
		if !target.SameType(a, target.Put(a, n, by)) {
			changed++
		}
	}
	if changed < 300 {
		t.Errorf("only %d types had something put in", changed)
	}
	// Where that does not fit.
	great := nodes(kernel.MaxTT / 2)
	m := fail(pair(v(1), v(1)))
	if got := answer(kernel.Check(target.PutIn(m, 1, great), []int{1}, nil)); got != big {
		t.Errorf("with a type that does not fit: %s", got)
	}
}

// TestP1004: each part of a term that has a type has one, in its surroundings.
func TestP1004(t *testing.T) {
	r := rand.New(rand.NewSource(1004))
	for range 2500 {
		m, vars, l := madeOrSpoiled(r)
		if _, e := kernel.Check(m, vars, l); e == api.OK {
			partsHave(t, m, vars, l)
		}
	}
}

// partsHave: does each part have a type? The surroundings are told by the types of the parts ahead.
func partsHave(t *testing.T, m api.TM, vars []int, l []kernel.Bind) {
	t.Helper()
	var first api.TT
	for i, kid := range m.Kids {
		innerVars, inner := slices.Clone(vars), slices.Clone(l)
		bind := func(name string, t api.TT) { inner = append(inner, kernel.Bind{Name: name, T: t}) }
		switch {
		case m.Kind == api.XLam:
			bind(m.Name, m.Types[0])
		case m.Kind == api.XFix:
			bind(m.Name, fn(m.Types[0], m.Types[1]))
			bind(m.Labels[0], m.Types[0])
		case m.Kind == api.XLet && i == 1:
			bind(m.Name, first)
		case m.Kind == api.XCase && i > 0:
			bind(m.Labels[i-1], first.Kids[i-1])
		case m.Kind == api.XAll:
			innerVars = append(innerVars, m.N)
		case m.Kind == api.XOpen && i == 1:
			innerVars = append(innerVars, m.N)
			bind(m.Name, target.Put(first.Kids[0], first.N, v(m.N)))
		}
		got, e := kernel.Check(kid, innerVars, inner)
		if e != api.OK {
			t.Fatalf("a part of %s has no type: %s", target.Show(m), target.Show(kid))
		}
		if i == 0 {
			first = got
		}
		partsHave(t, kid, innerVars, inner)
	}
}

// TestArgumentsStay: what was handed in stays as it was, its spare room too, and what was handed out before does.
func TestArgumentsStay(t *testing.T) {
	r := rand.New(rand.NewSource(4))
	tellAll := func(m api.TM, vars []int, l []kernel.Bind, u api.TT) string {
		s := tellTerm(m) + tell(u)
		for _, n := range vars[:cap(vars)] {
			s += "," + strconv.Itoa(n)
		}
		for _, b := range l[:cap(l)] {
			s += b.Name + tell(b.T)
		}
		return s + strconv.Itoa(len(vars)) + "/" + strconv.Itoa(len(l))
	}
	for range 3000 {
		plain, vars, l := madeOrSpoiled(r)
		m, u := roomyTerm(plain), roomy(mu(1, someType(r, []int{1, 2}, 4)))
		for i := range l {
			l[i].T = roomy(l[i].T)
		}
		vars = append(slices.Clone(vars), 71, 72)[:len(vars)]
		l = append(slices.Clone(l), kernel.Bind{Name: "s", T: v(73)})[:len(l)]
		before := tellAll(m, vars, l, u)
		a, e := kernel.Check(m, vars, l)
		told := tell(a)
		b, f := kernel.Check(m, vars, l)
		kernel.Closed(m)
		kernel.Has(m, u)
		unfolded, _ := kernel.Unfold(u)
		toldToo := tell(unfolded)
		kernel.Unfold(u)
		kernel.InScope(u, vars)
		if tellAll(m, vars, l, u) != before {
			t.Fatalf("%s has changed", target.Show(plain))
		}
		if !alike(a, e, b, f) || tell(a) != told || tell(unfolded) != toldToo {
			t.Fatalf("Check(%s) twice: %s, %s", target.Show(plain), answer(a, e), answer(b, f))
		}
	}
}
