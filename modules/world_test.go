package modules_test

import (
	"testing"

	"wafer/api"
	"wafer/env"
	"wafer/kernel"
	"wafer/modules"
	"wafer/target"
	"wafer/trans"
)

// prelude: what stands in the world: hidden types, datatypes, functors within structures, signatures.
const prelude = `
val one = 1 val id = fn x => x fun k x y = x
type two = int * int
data list = Nil | Cons of int * list
structure A :> sig type t val x : t val f : t -> int end = struct type t = int val x = 20 fun f x = x + 1 end
structure B = struct
  data d = D | E of A.t val y = E A.x
  structure C :> sig type u type v = u val p : u * d val g : 'a -> 'a * u end = struct type u = bool type v = u val p = (true, D) fun g x = (x, false) end
  functor H (X : sig type t val x : t end) = struct data t = T of X.t * C.u val z = T (X.x, case C.g 1 of (_, u) => u end) end
  signature Q = sig type t data e = P | R of t val q : e end
end
signature S = sig type t val x : t val f : t -> int end
signature O = sig structure A : S type t = A.t val z : t * A.t end
functor F (X : S) = struct data w = N | K of X.t val p = K X.x val q = X.f X.x end
functor G (X : sig structure Y : S val id : 'a -> 'a end) = struct structure Y = X.Y val r = X.id Y.x type l = list end
`

// world: an environment with all that, whose stamps are below 40; each thing's term is a name of its own.
func world() env.Env {
	p, i, err := plainDecs(env.Env{}, unit(prelude), 0)
	if err != api.OK || p.next > 40 {
		panic("no world: " + code(err) + " at " + show(unit(prelude)[i:i+1]))
	}
	return p.e
}

// around: the numbers and names with which the kernel takes the terms of an environment: its free stamps, and each name of a term of its at what trans says.
func around(e env.Env) ([]int, []kernel.Bind) {
	var l []kernel.Bind
	bind := func(x api.TM, t api.TT, err api.Errno) {
		if err != api.OK {
			panic("trans does not take what stands in the environment")
		}
		if x.Kind == api.XVar {
			l = append(l, kernel.Bind{Name: x.Name, T: t})
		}
	}
	for _, x := range e.Vals {
		t, err := trans.Scheme(x.S)
		bind(x.X, t, err)
	}
	for _, x := range e.Cons {
		t, err := trans.Con(x.T.N, x.All[x.N])
		bind(x.X, t, err)
		sum, err := trans.Sum(x.All)
		bind(x.Out, api.TT{Kind: api.GFn, Kids: []api.TT{{Kind: api.GVar, N: x.T.N}, sum}}, err)
	}
	for _, x := range e.Subs {
		t, err := trans.Str(x.S)
		bind(x.X, t, err)
	}
	for _, x := range e.Funs {
		t, err := trans.Fun(x.F)
		bind(x.X, t, err)
	}
	return e.Stamps(), l
}

// spot: an environment, and what the kernel is told of it.
type spot struct {
	e    env.Env
	vars []int
	l    []kernel.Bind
}

func placed(e env.Env) spot {
	vars, l := around(e)
	return spot{e, vars, l}
}

// typed: the kernel takes what is made, at the type that trans tells of its Abs (P1906), and no stamp is free in it that was not (P1909).
func (p spot) typed(t *testing.T, what string, m modules.Made) {
	t.Helper()
	p.typedAt(t, what, m.A, m.X)
	for _, n := range env.Free(m.A) {
		if len(common(p.vars, []int{n})) == 0 {
			t.Errorf("%s: the stamp %d is free in %s", brief(what), n, brief(lines(m.A)))
		}
	}
	if l := left(m.A); tell(l) != tell(m.A.Stamps) {
		t.Errorf("%s: the stamps %v, of which %v stand in it", brief(what), m.A.Stamps, l)
	}
}

func (p spot) typedAt(t *testing.T, what string, a api.Abs, x api.TM) {
	t.Helper()
	is, err := trans.Abs(a)
	if err != api.OK {
		t.Fatalf("%s: trans does not take what is made: %s", brief(what), code(err))
	}
	own, err := kernel.Check(x, p.vars, p.l)
	if err != api.OK || !target.SameType(own, is) {
		t.Fatalf("%s: the term has the type\n%s, %s, want\n%s", brief(what), brief(target.Text(own)), code(err), brief(target.Text(is)))
	}
}

// decs: what Decs answers for a text in a place, held against the chapter's words, and taken by the kernel.
func (p spot) decs(t *testing.T, l []api.Dec, next int) string {
	t.Helper()
	m, i, err := modules.Decs(p.e, l, next)
	is, at, want := plainDecs(p.e, l, next)
	if i != at || err != want {
		t.Fatalf("%s: %s at %d, want %s at %d", brief(show(l)), code(err), i, code(want), at)
	}
	if err == api.OK {
		p.alike(t, show(l), m, plain{is.a, is.next})
	}
	return answer(m, i, err)
}

// alike: what is made is what the chapter's words say, and the kernel takes it.
func (p spot) alike(t *testing.T, what string, m modules.Made, want plain) {
	t.Helper()
	if !env.SameAbs(m.A, want.a) || len(m.A.Stamps) != len(want.a.Stamps) || m.Next != want.next {
		t.Fatalf("%s:\n%v %s to %d, want\n%v %s to %d", brief(what), m.A.Stamps, brief(lines(m.A)), m.Next, want.a.Stamps, brief(lines(want.a)), want.next)
	}
	p.typed(t, what, m)
}

// mod: the same of Mod.
func (p spot) mod(t *testing.T, m api.Mod, next int) string {
	t.Helper()
	is, err := modules.Mod(p.e, m, next)
	want, code1 := plainMod(p.e, m, next)
	if err != code1 {
		t.Fatalf("%s: %s, want %s", brief(show([]api.Dec{dstr("M", m)})), code(err), code(code1))
	}
	if err == api.OK {
		p.alike(t, show([]api.Dec{dstr("M", m)}), is, want)
	}
	return answerMod(is, err)
}

func absType(a api.Abs) (api.TT, api.Errno) { return trans.Abs(a) }

func bindOf(name string, t api.TT) kernel.Bind { return kernel.Bind{Name: name, T: t} }

func transType(t api.Type) (api.TT, api.Errno) { return trans.Type(t) }

// transOut: the type of what takes a datatype apart.
func transOut(n int, l ...api.Ctor) (api.TT, api.Errno) {
	sum, err := trans.Sum(l)
	return api.TT{Kind: api.GFn, Kids: []api.TT{{Kind: api.GVar, N: n}, sum}}, err
}
