package sigs_test

import (
	"strconv"
	"testing"

	"wafer/api"
	"wafer/env"
	"wafer/sigs"
)

// ofSize: specifications that make a structure of so many nodes, its own one among them.
func ofSize(nodes int) []api.Spec {
	left := nodes - 1
	var l []api.Spec
	if left%2 == 1 {
		// Three nodes: the type, its stamp, the constructor.
		l, left = append(l, cdata("d", con("A"))), left-3
	}
	for i := 0; left > 0; i++ {
		leaves := min(50, left/2)
		l, left = append(l, cval("x"+strconv.Itoa(i), wideTy(leaves, ty("int")))), left-2*leaves
	}
	return l
}

// fails: Elab answers an error, and so do the chapter's words.
func fails(t *testing.T, what string, e env.Env, g api.Sig, is api.Errno) {
	t.Helper()
	a, next, err := sigs.Elab(e, g, 5)
	if err != is || err != api.OK && answered(5, a, next, err) != code(is) {
		t.Errorf("%s: %v, want %v", what, err, is)
	}
	if _, _, err := plainElab(e, g, 5); err != is {
		t.Errorf("%s: %v by the chapter's words, want %v", what, err, is)
	}
}

// TestSizes: MaxStr nodes and one above, of each kind of specification.
func TestSizes(t *testing.T) {
	t.Parallel()
	pairs := ty("int * int")
	last := map[string]struct {
		s     api.Spec
		nodes int
	}{
		"a value":                {cval("y", ty("int")), 2},
		"a value of a pair":      {cval("y", pairs), 4},
		"an open value":          {cval("y", ty("'a -> 'a")), 4},
		"a type":                 {ctype("t"), 2},
		"a type that is seen":    {ctype("t", pairs), 4},
		"a datatype":             {cdata("e", con("B"), con("C", pairs), con("D", ty("e"))), 2 + 1 + 4 + 2},
		"an empty structure":     {cstr("A", specs()), 2},
		"a structure":            {cstr("A", specs(ctype("t"), cval("x", pairs))), 2 + 2 + 4},
		"a signature of another": {cstr("A", path("T")), 4},
	}
	e := env.Env{Sigs: []env.Sig{{Name: "T", A: abs(ints(1), typ("t", stamp(1)))}}}
	for what, l := range last {
		for beyond := range 3 {
			g := specs(append(ofSize(api.MaxStr-l.nodes+beyond), l.s)...)
			is := api.OK
			if beyond > 0 {
				is = api.ErrBig
			}
			fails(t, what+" and "+strconv.Itoa(beyond), e, g, is)
		}
	}
}

// TestMany: as many specifications as there is room for.
func TestMany(t *testing.T) {
	t.Parallel()
	var l []api.Spec
	for i := range 2000 {
		l = append(l, ctype("t"+strconv.Itoa(i)))
	}
	a, next, err := sigs.Elab(env.Env{}, specs(l[:1999]...), 5)
	if err != api.OK || next != 2004 || len(a.Stamps) != 1999 {
		t.Errorf("%v, %d", err, next)
	}
	if got := elab(env.Env{}, specs(l...), 5); got != "ErrBig" {
		t.Errorf("%s", brief(got))
	}
}

// TestSizesOrder: ErrBig comes behind the errors of its own specification, and ahead of those of later ones.
func TestSizesOrder(t *testing.T) {
	t.Parallel()
	full := ofSize(api.MaxStr)
	with := func(l ...api.Spec) api.Sig { return specs(append(full[:len(full):len(full)], l...)...) }
	fails(t, "full", env.Env{}, with(), api.OK)
	for what, c := range map[string]struct {
		l  []api.Spec
		is api.Errno
	}{
		"one more":                  {[]api.Spec{cval("y", ty("int"))}, api.ErrBig},
		"a name again":              {[]api.Spec{cval("x7", ty("int"))}, api.ErrTwice},
		"a constructor again":       {[]api.Spec{cdata("e", con("B"), con("A"))}, api.ErrTwice},
		"what is not there":         {[]api.Spec{cval("y", ty("no"))}, api.ErrUnbound},
		"a type variable":           {[]api.Spec{ctype("t", ty("'a"))}, api.ErrTyvar},
		"a datatype with an error":  {[]api.Spec{cdata("e", con("B", ty("'a")))}, api.ErrTyvar},
		"a structure with an error": {[]api.Spec{cstr("A", specs(ctype("t"), ctype("t")))}, api.ErrTwice},
		"a signature not there":     {[]api.Spec{cstr("A", path("NOT"))}, api.ErrUnbound},
		"an error behind it":        {[]api.Spec{cval("y", ty("int")), cval("y", ty("int"))}, api.ErrBig},
		"an error behind it, too":   {[]api.Spec{ctype("t"), ctype("u", ty("no"))}, api.ErrBig},
		"much within":               {[]api.Spec{cstr("A", with(ctype("t"))), ctype("u", ty("no"))}, api.ErrBig},
	} {
		fails(t, what, env.Env{}, with(c.l...), c.is)
	}
	// A structure of its own may be as great as the one in which it stands may not be any more.
	fails(t, "within", env.Env{}, specs(cstr("A", with())), api.ErrBig)
	fails(t, "within, just", env.Env{}, specs(cstr("A", specs(ofSize(api.MaxStr-2)...))), api.OK)
	fails(t, "within, two", env.Env{}, specs(cstr("A", specs(ofSize(2000)...)), cstr("B", specs(ofSize(1997)...))), api.OK)
	fails(t, "within, two, one more", env.Env{}, specs(cstr("A", specs(ofSize(2000)...)), cstr("B", specs(ofSize(1998)...))), api.ErrBig)
	// What an environment has under a name is told, however great it is; but not within another one.
	great := env.Env{Sigs: []env.Sig{{Name: "T", A: abs(ints(1), typ("t", stamp(1)), val("x", wide(2400, stamp(1))))}}}
	fails(t, "a great one of the environment", great, path("T"), api.OK)
	fails(t, "and within", great, specs(cstr("A", path("T"))), api.ErrBig)
	fails(t, "and with a type put in", great, where(path("T"), "t", ty("int")), api.ErrBig)
}

// TestTypeSizes: a type that is written may come to MaxType nodes.
func TestTypeSizes(t *testing.T) {
	e := env.Env{Typs: []env.Typ{{Name: "w", T: wide(50, integer())}, {Name: "d", T: wide(2, integer())}}}
	just, beyond := wideTy(500, ty("int")), wideTy(501, ty("int"))
	// Ten of 99 nodes and nine between are 999; two pairs more are 1001, which stands in a list of MaxType.
	by, more := wideTy(10, ty("w")), wideTy(10, ty("w"))
	more = api.Ty{Kind: api.YFn, Kids: []api.Ty{more, ty("int")}}
	for _, one := range []struct {
		t  api.Ty
		is api.Errno
	}{{just, api.OK}, {beyond, api.ErrBig}, {by, api.OK}, {more, api.ErrBig}, {wideTy(250, ty("d")), api.OK}, {wideTy(251, ty("d")), api.ErrBig}} {
		for what, s := range map[string]api.Spec{
			"a value": cval("x", one.t), "a type": ctype("t", one.t), "a datatype": cdata("e", con("A"), con("B", one.t)), "a structure": cstr("A", specs(cval("x", one.t))),
		} {
			fails(t, what, e, specs(s, cval("y", ty("int"))), one.is)
		}
		fails(t, "a where", e, where(sig("sig type t end"), "t", one.t), one.is)
		fails(t, "a where that has no path", e, where(sig("sig type t end"), "u", one.t), map[api.Errno]api.Errno{api.OK: api.ErrUnbound, api.ErrBig: api.ErrBig}[one.is])
	}
	// ErrBig of a type is one of the errors in the order of parts.
	fails(t, "a datatype", e, specs(cdata("e", con("A", beyond), con("B", ty("no")))), api.ErrBig)
	fails(t, "a datatype", e, specs(cdata("e", con("A", ty("no")), con("B", beyond))), api.ErrUnbound)
	fails(t, "a value", e, specs(cval("x", beyond), cval("x", ty("no"))), api.ErrBig)
	fails(t, "a name again", e, specs(cval("x", ty("int")), cval("x", beyond)), api.ErrTwice)
}

// TestWhereSizes: ErrBig of Where: a type of more than MaxType nodes, a structure of more than MaxStr.
func TestWhereSizes(t *testing.T) {
	t.Parallel()
	check := func(what string, a api.Abs, by api.Type, is api.Errno) {
		t.Helper()
		got, err := sigs.Where(a, []string{"t"}, by)
		want, code := plainWhere(a, []string{"t"}, by)
		if err != is || code != is || tell(got) != tell(want) && show(got) != show(want) {
			t.Errorf("%s: %v, by the chapter's words %v, want %v", what, err, code, is)
		}
		if err != api.OK && tell(got) != tell(api.Abs{}) {
			t.Errorf("%s: something beside an error", what)
		}
	}
	base := typ("t", stamp(1))
	// Of leaves that are the stamp, one in wide(500), each becomes a pair of three nodes: 999 and two more each.
	one := pair(stamp(1), wide(499, integer()))
	two := integer()
	check("just", abs(ints(1), base, val("x", one)), two, api.OK)
	for what, m := range map[string]any{
		"a value": val("x", one), "an open value": poly("x", 1, pair(gen(0), pair(stamp(1), wide(498, integer())))), "a type": typ("u", one),
		"a constructor": typ("d", stamp(2), ctor("A"), ctor("B", integer()), ctor("C", one)), "a structure": sub("A", sub("B", typ("u", one))),
	} {
		check(what, abs(ints(1, 2), base, m), integer(), api.OK)
		check(what, abs(ints(1, 2), base, m), pair(integer(), integer()), api.ErrBig)
	}
	many := val("x", wide(20, stamp(1)))
	check("20 of 49", abs(ints(1), base, many), wide(25, boolean()), api.OK)
	check("20 of 51", abs(ints(1), base, many), wide(26, boolean()), api.ErrBig)
	// The structure: 1, the type t 2, and so many values of a pair of the stamp and int: 4 each; with a type of n nodes 3 + n each.
	structure := func(count, more int) api.Abs {
		a := abs(ints(1), base)
		for i := range count {
			a.S.Vals = append(a.S.Vals, val("x"+strconv.Itoa(i), pair(stamp(1), integer())))
		}
		for i := range more {
			a.S.Subs = append(a.S.Subs, sub("S"+strconv.Itoa(i)))
		}
		return a
	}
	// With three nodes: 1 + 1 + 3 + 6 each + 2 each.
	check("4000 - 1", structure(665, 2), wide(2, boolean()), api.OK)
	check("4000 + 1", structure(665, 3), wide(2, boolean()), api.ErrBig)
	even := structure(665, 1)
	even.S.Types = append(even.S.Types, typ("d", stamp(9), ctor("A")))
	check("4000", even, wide(2, boolean()), api.OK)
	even.S.Types[1].Ctors = append(even.S.Types[1].Ctors, ctor("B"))
	check("4001", even, wide(2, boolean()), api.ErrBig)
	check("as great ahead", structure(900, 200), boolean(), api.ErrBig)
	check("much more", structure(990, 1), wide(400, boolean()), api.ErrBig)
	// Members within substructures count, too.
	deep := abs(ints(1), base, sub("A", sub("B")))
	for i := range 800 {
		deep.S.Subs[0].S.Subs[0].S.Vals = append(deep.S.Subs[0].S.Subs[0].S.Vals, val("x"+strconv.Itoa(i), stamp(1)))
	}
	check("within", deep, wide(2, boolean()), api.OK)
	check("too much within", deep, wide(3, boolean()), api.ErrBig)
	// ErrBig comes last.
	for what, c := range map[string]struct {
		a  api.Abs
		is api.Errno
	}{
		"no type":     {api.Abs{Stamps: ints(1), S: structure(990, 1).S}, api.ErrBig},
		"no stamp":    {api.Abs{S: structure(990, 1).S}, api.ErrWhere},
		"not there":   {abs(ints(1), val("t", wide(600, stamp(1)))), api.ErrUnbound},
		"of datatype": {abs(ints(1), typ("t", stamp(1), ctor("A", wide(600, stamp(1))))), api.ErrWhere},
	} {
		check(what, c.a, wide(300, integer()), c.is)
	}
}
