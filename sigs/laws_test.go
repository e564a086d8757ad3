package sigs_test

import (
	"slices"
	"strings"
	"testing"

	"wafer/api"
	"wafer/env"
	"wafer/names"
	"wafer/sigs"
	"wafer/types"
)

// TestElabByChance: signature expressions, right and spoiled, against the chapter's words.
func TestElabByChance(t *testing.T) {
	t.Parallel()
	count := map[api.Errno]int{}
	var stamps, wheres int
	for seed := range int64(15000) {
		m := newMaker(seed)
		e := m.place()
		g := m.sig(e, 2+m.Intn(4))
		if seed%5 == 0 {
			m.spoil(&g)
		}
		next := chosen(m, []int{10, 10, 10, 77, 1 << 30, 10 + m.Intn(1000), -1, 1<<30 + 1})
		a, behind, err := sigs.Elab(e, g, next)
		is, end, code := plainElab(e, g, next)
		if got, want := answered(next, a, behind, err), answered(next, is, end, code); got != want {
			t.Fatalf("%d: %s: %s, want %s", seed, showSig(g), got, want)
		}
		count[err]++
		if len(a.Stamps) > 2 {
			stamps++
		}
		if err == api.OK && g.Kind == api.SWhere {
			wheres++
		}
	}
	for _, err := range []api.Errno{api.ErrArg, api.ErrName, api.ErrTwice, api.ErrUnbound, api.ErrTyvar, api.ErrWhere} {
		if count[err] < 50 {
			t.Errorf("%v: %d: the test does not try much", err, count[err])
		}
	}
	if count[api.OK] < 5000 || stamps < 1000 || wheres < 1000 {
		t.Errorf("%d, %d, %d: the test does not try much", count[api.OK], stamps, wheres)
	}
}

// TestWhereByChance: Where of any Abs against the chapter's words.
func TestWhereByChance(t *testing.T) {
	t.Parallel()
	count := map[api.Errno]int{}
	for seed := range int64(20000) {
		m := newMaker(seed)
		a := m.abs(3)
		at := append(pathsIn(a.S, ""), "no", "M.t", "N.M.u")
		path := strings.Split(chosen(m, at), ".")
		by := chosen(m, []api.Type{integer(), stamp(30), fn(stamp(31), boolean()), wide(500, stamp(32)), wide(chosen(m, []int{50, 400, 500, 500}), stamp(32))})
		got, err := sigs.Where(a, path, by)
		want, code := plainWhere(a, path, by)
		if err != code || show(got) != show(want) || err != api.OK && tell(got) != tell(api.Abs{}) {
			t.Fatalf("%d: %s at %v: %v, %s, want %v, %s", seed, show(a), path, err, brief(show(got)), code, brief(show(want)))
		}
		count[err]++
	}
	for _, err := range []api.Errno{api.OK, api.ErrUnbound, api.ErrWhere, api.ErrBig} {
		if count[err] < 300 {
			t.Errorf("%v: %d: the test does not try much", err, count[err])
		}
	}
}

// TestFreshByChance: Fresh of any Abs, which is the same Abs but for its numbers.
func TestFreshByChance(t *testing.T) {
	t.Parallel()
	for seed := range int64(8000) {
		m := newMaker(seed)
		a := m.abs(3)
		// From 8 on no number stands in it; those below may be free in it.
		next := 8 + m.Intn(20)
		got, end := sigs.Fresh(a, next)
		want, behind := plainFresh(a, next)
		if end != behind || show(got) != show(want) {
			t.Fatalf("%d: %s from %d: %s, %d, want %s, %d", seed, show(a), next, show(got), end, show(want), behind)
		}
		if !env.SameAbs(got, a) || !slices.Equal(env.Free(got), env.Free(a)) {
			t.Fatalf("%d: %s is another one than %s", seed, show(got), show(a))
		}
		// Numbers of its own may be the new ones, too.
		all := api.Abs{S: a.S, Stamps: env.Free(api.Abs{S: a.S})}
		next = m.Intn(8)
		got, _ = sigs.Fresh(all, next)
		if want, _ = plainFresh(all, next); show(got) != show(want) || !env.SameAbs(got, all) {
			t.Fatalf("%d: %s from %d: %s, want %s", seed, show(all), next, show(got), show(want))
		}
	}
}

// TestDataByChance: Data against the first error and the types of the environment.
func TestDataByChance(t *testing.T) {
	t.Parallel()
	e := world()
	right := 0
	for seed := range int64(4000) {
		m := newMaker(seed)
		var l []api.Con
		for range m.Intn(5) {
			c := con(m.high())
			if m.Intn(3) > 0 {
				c.Tys = append(c.Tys, m.ty(e, 3, m.Intn(8) == 0))
			}
			l = append(l, c)
		}
		want, code := typ("d", stamp(60)), api.OK
		for _, c := range l {
			one := ctor(c.Name)
			for _, written := range c.Tys {
				t, err := e.Type(written)
				if code == api.OK {
					code = err
				}
				one.Args = append(one.Args, t)
			}
			want.Ctors = append(want.Ctors, one)
		}
		if code != api.OK {
			want = api.TyMember{}
		} else {
			right++
		}
		got, err := sigs.Data(e, "d", l, 60)
		if err != code || showStr(str(got)) != showStr(str(want)) || err != api.OK && tell(got) != tell(api.TyMember{}) {
			t.Fatalf("%d: %v, %s, want %v, %s", seed, err, tell(got), code, tell(want))
		}
	}
	if right < 1000 || right > 3800 {
		t.Errorf("%d are right: the test does not try much", right)
	}
}

// paths: all that a signature expression names.
func paths(g api.Sig) [][]string {
	var l [][]string
	var ofTy func(t api.Ty)
	ofTy = func(t api.Ty) {
		if t.Kind == api.YCon {
			l = append(l, t.Path)
		}
		for _, k := range t.Kids {
			ofTy(k)
		}
	}
	var ofSig func(g api.Sig)
	ofSig = func(g api.Sig) {
		if g.Kind == api.SPath {
			l = append(l, g.Path)
		}
		for _, t := range g.Tys {
			ofTy(t)
		}
		for _, one := range g.Sigs {
			ofSig(one)
		}
		for _, s := range g.Specs {
			for _, t := range s.Tys {
				ofTy(t)
			}
			for _, c := range s.Cons {
				for _, t := range c.Tys {
					ofTy(t)
				}
			}
			for _, one := range s.Sigs {
				ofSig(one)
			}
		}
	}
	ofSig(g)
	return l
}

// otherwise: an environment in which those paths tell the same, and all else is another.
func otherwise(m *maker, e env.Env, l [][]string) env.Env {
	var first []string
	for _, p := range l {
		first = append(first, p[0])
	}
	first = names.Set(first)
	out := env.Env{
		Vals: []env.Val{{Name: "x", S: api.Scheme{T: boolean()}}, {Name: "t", S: api.Scheme{T: stamp(3)}}},
		Cons: []env.Con{{Name: "A", T: stamp(40)}},
		Funs: []env.Fun{{Name: "M"}, {Name: "T"}},
	}
	// Entries that are hidden by those that count.
	for _, t := range e.Typs {
		out.Typs = append(out.Typs, env.Typ{Name: t.Name, T: integer()})
	}
	for _, s := range e.Subs {
		out.Subs = append(out.Subs, env.Sub{Name: s.Name, S: str(typ("t", integer()))})
	}
	for _, t := range e.Typs {
		if slices.Contains(first, t.Name) {
			t.Ctors = nil
			out.Typs = append(out.Typs, t)
		}
	}
	for _, s := range e.Subs {
		if slices.Contains(first, s.Name) {
			s.X = api.TM{Kind: api.XVar, Name: "other"}
			// Values and constructors are asked for by no signature.
			s.S.Vals = []api.ValMember{val("other", stamp(33))}
			s.S.Types = slices.Clone(s.S.Types)
			for i := range s.S.Types {
				s.S.Types[i].Ctors = nil
			}
			out.Subs = append(out.Subs, s)
		}
	}
	for _, g := range e.Sigs {
		if slices.Contains(first, g.Name) {
			out.Sigs = append(out.Sigs, g)
		}
	}
	for _, name := range []string{"t", "u", "d", "no", "x"} {
		if !slices.Contains(first, name) {
			out.Typs = append(out.Typs, env.Typ{Name: name, T: stamp(m.Intn(5))})
		}
	}
	for _, name := range []string{"M", "T", "A", "NO", "DATA"} {
		if !slices.Contains(first, name) {
			out.Subs = append(out.Subs, env.Sub{Name: name, S: str(typ("t", boolean()))})
			out.Sigs = append(out.Sigs, env.Sig{Name: name, A: abs(ints(1), typ("q", stamp(1)))})
		}
	}
	return out
}

// TestOthers: what no path of a signature tells makes no difference.
func TestOthers(t *testing.T) {
	t.Parallel()
	right := 0
	for seed := range int64(6000) {
		m := newMaker(seed)
		e := m.place()
		g := m.sig(e, 2+m.Intn(3))
		got, want := elab(otherwise(m, e, paths(g)), g, 50), elab(e, g, 50)
		if got != want {
			t.Fatalf("%d: %s: %s, in another environment %s", seed, showSig(g), want, got)
		}
		if strings.HasPrefix(want, "[") {
			right++
		}
	}
	if right < 2500 {
		t.Errorf("%d: the test does not try much", right)
	}
}

// TestUnlikeNext: two calls with unlike next make what is the same, and so many stamps.
func TestUnlikeNext(t *testing.T) {
	t.Parallel()
	right := 0
	for seed := range int64(6000) {
		m := newMaker(seed)
		e := m.place()
		g := m.sig(e, 2+m.Intn(3))
		one, two := 10+m.Intn(40), chosen(m, []int{10, 60, 1 << 30, 100 + m.Intn(1000)})
		a, behind, err := sigs.Elab(e, g, one)
		b, end, code := sigs.Elab(e, g, two)
		if err != code || behind-one != end-two || len(a.Stamps) != len(b.Stamps) || !env.SameAbs(a, b) {
			t.Fatalf("%d: %s: %s, %s", seed, showSig(g), answered(one, a, behind, err), answered(two, b, end, code))
		}
		if err != api.OK {
			continue
		}
		right++
		for i := range a.Stamps {
			if a.Stamps[i]-one != b.Stamps[i]-two || a.Stamps[i] < one || a.Stamps[i] >= behind || i > 0 && a.Stamps[i] <= a.Stamps[i-1] {
				t.Fatalf("%d: stamps %v from %d to %d", seed, a.Stamps, one, behind)
			}
		}
	}
	if right < 2500 {
		t.Errorf("%d: the test does not try much", right)
	}
}

// TestWhereOfElab: Elab of an SWhere is Where of Elab of its Sig.
func TestWhereOfElab(t *testing.T) {
	t.Parallel()
	count := map[api.Errno]int{}
	for seed := range int64(8000) {
		m := newMaker(seed)
		e := m.place()
		g := m.sig(e, 4)
		a, behind, err := sigs.Elab(e, g, 50)
		if err != api.OK {
			continue
		}
		w := where(g, chosen(m, append(m.free(a), "t", "no", "M.t")), m.ty(e, 3, m.Intn(10) == 0))
		want, code := api.Abs{}, api.OK
		by, bad := e.Type(w.Tys[0])
		if code = bad; bad == api.OK {
			want, code = sigs.Where(a, w.Path, by)
		}
		got, end, err := sigs.Elab(e, w, 50)
		if err != code || show(got) != show(want) || err == api.OK && end != behind || err != api.OK && end != 50 {
			t.Fatalf("%d: %s: %v, %s, %d, want %v, %s, %d", seed, showSig(w), err, show(got), end, code, show(want), behind)
		}
		count[err]++
	}
	for _, err := range []api.Errno{api.OK, api.ErrUnbound, api.ErrWhere, api.ErrTyvar} {
		if count[err] < 100 {
			t.Errorf("%v: %d: the test does not try much", err, count[err])
		}
	}
}

// TestFree: no stamp is free in what Elab answers that was not free in the environment; what comes is in order, and right.
func TestFree(t *testing.T) {
	t.Parallel()
	some := 0
	for seed := range int64(6000) {
		m := newMaker(seed)
		e := m.place()
		there := e.Stamps()
		g := m.sig(e, 2+m.Intn(3))
		a, _, err := sigs.Elab(e, g, 50)
		if err != api.OK {
			continue
		}
		free := env.Free(a)
		for _, n := range free {
			if !slices.Contains(there, n) {
				t.Fatalf("%d: %s: %d is free in %s", seed, showSig(g), n, show(a))
			}
		}
		if len(free) > 0 {
			some++
		}
		if show(a) != show(api.Abs{Stamps: a.Stamps, S: env.Sorted(a.S)}) {
			t.Fatalf("%d: %s: %s is not sorted", seed, showSig(g), show(a))
		}
		for _, is := range allTypes(a.S) {
			if !types.Right(is) {
				t.Fatalf("%d: %s: %s has a type that is not right", seed, showSig(g), show(a))
			}
		}
	}
	if some < 1000 {
		t.Errorf("%d: the test does not try much", some)
	}
}
