package env_test

import (
	"fmt"
	"slices"
	"strings"
	"testing"

	"wafer/api"
	"wafer/env"
	"wafer/types"
)

// nested: a structure within as many others.
func nested(depth int, s api.Str) api.Str {
	for range depth {
		s = api.Str{Subs: []api.SubMember{{Name: "M", S: s}}}
	}
	return s
}

// deepest: what is nested as deep as it may be, in each of the ways in which structures are nested.
const deepest = 1 << 16

// functors: as many functors within one another, in their Args or in their Res, each of which binds 1 and 2.
func functors(depth int, arg bool) api.Str {
	s := str(val("x", fn(stamp(1), stamp(3))))
	for range depth {
		f := api.Fun{Stamps: ints(1, 2)}
		if arg {
			f.Arg = s
		} else {
			f.Res = api.Abs{Stamps: ints(2), S: s}
		}
		s = api.Str{Funs: []api.FunMember{{Name: "F", F: f}}, Vals: []api.ValMember{val("y", stamp(2))}}
	}
	return s
}

// signatures: as many signatures within one another, each of which binds 1.
func signatures(depth int) api.Str {
	s := str(val("x", fn(stamp(1), stamp(3))))
	for range depth {
		s = api.Str{Sigs: []api.SigMember{{Name: "S", A: api.Abs{Stamps: ints(1), S: s}}}}
	}
	return s
}

// TestDeep: structures, functors and signatures that are nested as deep as they may be.
func TestDeep(t *testing.T) {
	const depth = deepest - 4
	for what, s := range map[string]api.Str{
		"structures": nested(depth, str(typ("t", fn(stamp(1), stamp(3))))),
		"Args":       functors(depth/2, true),
		"Res":        functors(depth/2, false),
		"signatures": signatures(depth),
	} {
		a := api.Abs{Stamps: ints(1, 2), S: s}
		same(t, what, env.Free(a), ints(3))
		size := env.SizeAbs(a, 1<<30)
		if got := env.SizeAbs(a, size); got != size || env.SizeAbs(a, size-1) != size || env.Size(s, size) != size-2 || size < depth {
			t.Errorf("%s: %d nodes", what, got)
		}
		c := env.Canon(a)
		same(t, what, env.Free(c), ints(3))
		if !env.SameAbs(a, c) || env.SameAbs(a, api.Abs{S: s}) != (what == "signatures") || !env.SameAbs(api.Abs{S: env.Sorted(s)}, api.Abs{S: s}) {
			t.Errorf("%s: SameAbs", what)
		}
		// All that bind 1 around the innermost place would catch it.
		r := env.Rename(a, ints(3), ints(1))
		same(t, what, env.Free(r), ints(1))
		if env.SameAbs(a, r) || !env.SameAbs(a, env.Rename(r, ints(1), ints(3))) {
			t.Errorf("%s: Rename", what)
		}
		e := env.Env{Subs: []env.Sub{{Name: "M", S: s, X: variable("m")}}}
		same(t, what, e.Stamps(), env.Free(api.Abs{S: s}))
	}
}

// TestDeepPaths: paths as long as structures are nested, and longer ones.
func TestDeepPaths(t *testing.T) {
	const depth = deepest - 4
	e := env.Env{Subs: []env.Sub{{Name: "M", S: nested(depth, inner(1)), X: variable("m")}}}
	to := func(count int, last ...string) []string { return append(slices.Repeat(path("M"), count), last...) }
	v, code := e.Val(to(depth+1, "y"))
	if code != api.OK || !types.Same(v.S.T, boolean()) {
		t.Fatalf("Val: %v", code)
	}
	labels := 0
	x := v.X
	for ; x.Kind == api.XSel && len(x.Kids) == 1; x = x.Kids[0] {
		labels++
	}
	same(t, "the innermost term", x, variable("m"))
	if labels != depth+1 {
		t.Errorf("%d labels", labels)
	}
	if c, code := e.Con(to(depth+1, "D")); code != api.OK || c.N != 1 || c.Out.Name != "out t" {
		t.Errorf("Con: %v", code)
	}
	if _, code := e.Sub(to(3)); code != api.OK {
		t.Errorf("Sub: %v", code)
	}
	wantNone(t, e, to(depth, "y")...)
	wantNone(t, e, to(depth+2, "y")...)
	// A path is a list: it may be far longer than anything is nested.
	for _, in := range []env.Env{e, {}} {
		if _, code := in.Val(to(1<<22, "y")); code != api.ErrUnbound {
			t.Errorf("Val: %v", code)
		}
		if _, code := in.Sub(to(1 << 22)); code != api.ErrUnbound {
			t.Errorf("Sub: %v", code)
		}
	}
}

// TestDeepTypes: types that are nested as deep as they may be.
func TestDeepTypes(t *testing.T) {
	left, right := stamp(1), stamp(1)
	for range deepest - 4 {
		left, right = pair(left, stamp(2)), fn(stamp(2), right)
	}
	a := abs(ints(1), typ("t", left), val("x", right))
	nodes := 2*(deepest-4) + 1
	if got := env.SizeAbs(a, 1<<30); got != 2*nodes+4 {
		t.Errorf("%d nodes", got)
	}
	same(t, "Free", env.Free(a), ints(2))
	same(t, "Free of Rename", env.Free(env.Rename(a, ints(2), ints(1))), ints(1))
	if c := env.Canon(a); !env.SameAbs(c, a) || len(c.Stamps) != 1 || c.Stamps[0] != 0 {
		t.Errorf("Canon: %v", c.Stamps)
	}
	if text := env.Text(a); !strings.HasSuffix(text, " -> #2 -> ?1\n") {
		t.Errorf("Text: %d bytes", len(text))
	}
	e := env.Env{Typs: []env.Typ{{Name: "t", T: left}}}
	fails(t, e, ycon("t"), api.ErrBig)
	if found, code := e.Typ(path("t")); code != api.OK || !types.Same(found.T, left) {
		t.Errorf("Typ: %v", code)
	}
}

// TestWide: so many members, stamps and names that no list of them can be gone through for each.
func TestWide(t *testing.T) {
	const count = 40000
	var a, want api.Abs
	for i := range count {
		name := fmt.Sprintf("x%06d", i)
		a.Stamps = append(a.Stamps, i)
		a.S.Vals = append(a.S.Vals, val(fmt.Sprintf("x%06d", count-1-i), fn(stamp(i), stamp(count+i))))
		want.Stamps = append(want.Stamps, i)
		want.S.Vals = append(want.S.Vals, val(name, fn(stamp(i), stamp(2*count-1-i))))
	}
	if got := env.Canon(a); tell(got) != tell(want) {
		t.Errorf("Canon of %d members", count)
	}
	if free := env.Free(a); len(free) != count || free[0] != count || free[count-1] != 2*count-1 {
		t.Errorf("Free: %d stamps", len(free))
	}
	if !env.SameAbs(a, want) || env.SameAbs(a, api.Abs{S: a.S}) {
		t.Errorf("SameAbs")
	}
	// Each becomes a number that is bound, and all of them are to be given others.
	r := env.Rename(a, a.Stamps, a.Stamps)
	if tell(r) != tell(a) {
		t.Errorf("Rename of what is bound")
	}
	free := env.Free(a)
	r = env.Rename(a, free, a.Stamps)
	if got := env.Free(r); !slices.Equal(got, a.Stamps) || len(r.Stamps) != count || slices.ContainsFunc(r.Stamps, func(n int) bool { return n < 2*count }) {
		t.Errorf("Rename: %d are free", len(got))
	}
	if !env.SameAbs(env.Rename(r, a.Stamps, free), a) {
		t.Errorf("Rename back")
	}
	if lines := strings.Count(env.Text(a), "\n"); lines != count {
		t.Errorf("Text: %d lines", lines)
	}
}

// TestManyBinders: many binders, side by side and within one another, of one number, each of which would catch.
func TestManyBinders(t *testing.T) {
	const count = 20000
	side, inside := abs(nil), str()
	for i := range count {
		side.S.Sigs = append(side.S.Sigs, sig(fmt.Sprint("S", i), ints(1), typ("t", pair(stamp(1), stamp(2)))))
		inside = api.Str{Vals: []api.ValMember{val("x", pair(stamp(1), stamp(2)))}, Sigs: []api.SigMember{{Name: "S", A: api.Abs{Stamps: ints(1), S: inside}}}}
	}
	for _, a := range []api.Abs{side, {Stamps: ints(1), S: inside}} {
		r := env.Rename(a, ints(2), ints(1))
		same(t, "Free", env.Free(r), ints(1))
		if !env.SameAbs(env.Rename(r, ints(1), ints(2)), a) || env.SameAbs(r, a) {
			t.Errorf("Rename")
		}
		// Each has a number of its own, in the order in which they stand: 2 is free.
		c := env.Canon(a)
		l := slices.Clone(c.Stamps)
		for s := c.S; len(s.Sigs) > 0; s = s.Sigs[0].A.S {
			for _, m := range s.Sigs {
				l = append(l, m.A.Stamps...)
			}
		}
		if len(l) != count || !slices.IsSorted(l) || l[0] != 0 || l[2] != 3 || l[count-1] != count {
			t.Errorf("Canon: %d numbers", len(l))
		}
	}
}
