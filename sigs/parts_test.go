package sigs_test

import (
	"math"
	"strings"
	"testing"

	"wafer/api"
	"wafer/env"
	"wafer/sigs"
)

// TestData: the type member of a datatype.
func TestData(t *testing.T) {
	e := world()
	e.Typs = append(e.Typs, env.Typ{Name: "d", T: stamp(50)})
	for _, c := range []struct {
		name  string
		l     []api.Con
		stamp int
		want  string
	}{
		{"d", []api.Con{con("A")}, 50, "type d = #50: A"},
		{"d", []api.Con{con("B", ty("d")), con("A"), con("C", ty("t * M.t"))}, 50, "type d = #50: B of #50 | A | C of #0 * #1"},
		{"e", []api.Con{con("Z", ty("d -> M.N.b")), con("Y")}, 7, "type e = #7: Z of #50 -> bool | Y"},
		{"d", nil, 3, "type d = #3"},
		{"d", []api.Con{con("A", ty("int")), con("A", ty("bool"))}, 50, "type d = #50: A of int | A of bool"},
		{"d", []api.Con{con("A")}, math.MaxInt, "type d = #9223372036854775807: A"},
		{"d", []api.Con{con("A")}, 0, "type d = #0: A"},
		{"d", []api.Con{con("A", ty("f"))}, 50, "type d = #50: A of #0 -> int"},
	} {
		got, err := sigs.Data(e, c.name, c.l, c.stamp)
		if is := showStr(str(got)); err != api.OK || is != c.want {
			t.Errorf("%s: %v, want %s", is, err, c.want)
		}
	}
	deep := ty("int")
	for range api.MaxDepth {
		deep = api.Ty{Kind: api.YFn, Kids: []api.Ty{ty("int"), deep}}
	}
	for _, c := range []struct {
		l  []api.Con
		is api.Errno
	}{
		{[]api.Con{con("A", ty("no"))}, api.ErrUnbound},
		{[]api.Con{con("A"), con("B", ty("int")), con("C", ty("M.no"))}, api.ErrUnbound},
		{[]api.Con{con("A", ty("'a"))}, api.ErrTyvar},
		{[]api.Con{con("A", ty("'a * no"))}, api.ErrUnbound},
		{[]api.Con{con("A", ty("'a")), con("B", ty("no"))}, api.ErrTyvar},
		{[]api.Con{con("A", ty("no")), con("B", ty("'a"))}, api.ErrUnbound},
		{[]api.Con{con("A", api.Ty{}), con("B", ty("no"))}, api.ErrArg},
		{[]api.Con{con("A", ty("no")), con("B", api.Ty{})}, api.ErrUnbound},
		{[]api.Con{con("A", deep), con("B", ty("'a"))}, api.ErrDeep},
		{[]api.Con{con("A", api.Ty{Kind: api.YCon, Path: []string{"T"}}), con("B", ty("'a"))}, api.ErrName},
		{[]api.Con{con("A", wideTy(501, ty("int"))), con("B", ty("'a"))}, api.ErrBig},
		{[]api.Con{con("A", ty("'a")), con("B", wideTy(501, ty("int")))}, api.ErrTyvar},
	} {
		got, err := sigs.Data(e, "d", c.l, 50)
		if err != c.is || tell(got) != tell(api.TyMember{}) {
			t.Errorf("%v: %v, %s, want %v", c.l, err, tell(got), c.is)
		}
	}
}

// TestWhere: what stands in place of a stamp, and why nothing can.
func TestWhere(t *testing.T) {
	a := abs(ints(4, 9, 6, 2),
		typ("t", stamp(6)), typ("u", stamp(6)), typ("p", pair(stamp(6), stamp(9))), typ("d", stamp(2), ctor("A"), ctor("B", fn(stamp(6), stamp(2)))), typ("alias", stamp(2)),
		typ("out", stamp(7)), typ("i", integer()), typ("o", stamp(4)),
		val("x", stamp(6)), poly("f", 2, fn(gen(0), pair(gen(1), stamp(6)))),
		sub("M", typ("t", stamp(9)), typ("s", stamp(6)), val("y", pair(stamp(6), stamp(9))), sub("N", typ("e", stamp(4), ctor("C", stamp(6))), typ("t", stamp(6)))),
	)
	rest := func(six, nine string) string {
		return strings.NewReplacer("6", six, "9", nine).Replace("type t = 6, type u = 6, type p = 6 * 9, type d = #2: A | B of 6 -> #2, type alias = #2, type out = #7, type i = int, type o = #4, val x 6, val f 'a -> 'b * 6 /2, structure M (type t = 9, type s = 6, val y 6 * 9, structure N (type e = #4: C of 6, type t = 6))")
	}
	for _, c := range []struct {
		path string
		by   api.Type
		want string
	}{
		{"t", integer(), "[4 9 2] " + rest("int", "#9")},
		{"u", stamp(7), "[4 9 2] " + rest("#7", "#9")},
		{"M.s", integer(), "[4 9 2] " + rest("int", "#9")},
		{"M.N.t", stamp(30), "[4 9 2] " + rest("#30", "#9")},
		{"M.t", boolean(), "[4 6 2] " + rest("#6", "bool")},
		{"out", integer(), "ErrWhere"},  // no stamp of its own
		{"i", integer(), "ErrWhere"},    // no stamp
		{"p", integer(), "ErrWhere"},    // no stamp
		{"d", integer(), "ErrWhere"},    // a datatype's
		{"alias", stamp(3), "ErrWhere"}, // a datatype's, under another name
		{"o", stamp(3), "ErrWhere"},     // one of a substructure's datatype
		{"M.N.e", stamp(3), "ErrWhere"},
		{"no", integer(), "ErrUnbound"},
		{"x", integer(), "ErrUnbound"},
		{"M", integer(), "ErrUnbound"},
		{"M.no", integer(), "ErrUnbound"},
		{"M.y", integer(), "ErrUnbound"},
		{"N.t", integer(), "ErrUnbound"},
		{"M.M.t", integer(), "ErrUnbound"},
		{"", integer(), "ErrUnbound"},
		{"t.t", integer(), "ErrUnbound"},
	} {
		path := strings.Split(c.path, ".")
		got, err := sigs.Where(a, path, c.by)
		is := show(got)
		if err != api.OK {
			is = code(err)
		}
		if is != c.want || err != api.OK && tell(got) != tell(api.Abs{}) {
			t.Errorf("%s: %s, want %s", c.path, is, c.want)
		}
	}
	if got, err := sigs.Where(a, nil, integer()); err != api.ErrUnbound || tell(got) != tell(api.Abs{}) {
		t.Errorf("no path: %v", err)
	}
	// The lists stay in their order; of two of one name the last one counts.
	loose := abs(ints(1, 2), typ("t", stamp(1)), typ("t", stamp(2)), typ("a", stamp(1)), sub("B", typ("u", stamp(1))), sub("A"), sub("B", typ("u", stamp(2))))
	for at, want := range map[string]string{
		"t":   "[1] type t = #1, type t = bool, type a = #1, structure B (type u = #1), structure A (), structure B (type u = bool)",
		"B.u": "[1] type t = #1, type t = bool, type a = #1, structure B (type u = #1), structure A (), structure B (type u = bool)",
		"a":   "[2] type t = bool, type t = #2, type a = bool, structure B (type u = bool), structure A (), structure B (type u = #2)",
	} {
		if got, err := sigs.Where(loose, strings.Split(at, "."), boolean()); err != api.OK || show(got) != want {
			t.Errorf("%s: %v, %s, want %s", at, err, show(got), want)
		}
	}
	// A datatype's T that is no stamp hides none.
	odd := abs(ints(1), typ("t", stamp(1)), typ("d", node(api.TMeta, 1), ctor("A")))
	if got, err := sigs.Where(odd, []string{"t"}, integer()); err != api.OK || len(got.Stamps) > 0 {
		t.Errorf("%v", err)
	}
}

// TestFresh: new numbers for the stamps, in their order.
func TestFresh(t *testing.T) {
	for _, c := range []struct {
		a    api.Abs
		next int
		want string
		end  int
	}{
		{abs(nil), 5, "[]", 5},
		{abs(nil, typ("t", stamp(4)), val("x", integer())), 0, "[] type t = #4, val x int", 0},
		{abs(ints(4), typ("t", stamp(4))), 0, "[0] type t = #0", 1},
		{abs(ints(4), typ("t", stamp(4))), 4, "[4] type t = #4", 5},
		{abs(ints(9, 3, 4), typ("t", stamp(4)), typ("u", stamp(3)), typ("s", stamp(9)), val("x", stamp(2))), 20, "[20 21 22] type t = #22, type u = #21, type s = #20, val x #2", 23},
		// New numbers that are old ones of others.
		{abs(ints(5, 6, 7), typ("a", stamp(5)), typ("b", stamp(6)), typ("c", stamp(7))), 6, "[6 7 8] type a = #6, type b = #7, type c = #8", 9},
		{abs(ints(7, 6), typ("a", stamp(6)), typ("b", stamp(7))), 6, "[6 7] type a = #7, type b = #6", 8},
		{abs(ints(1, 2), sub("M", typ("t", stamp(2)), sub("N", typ("d", stamp(1), ctor("A", stamp(2)), ctor("B")))), poly("f", 1, fn(gen(0), stamp(1)))), 8, "[8 9] val f 'a -> #8 /1, structure M (type t = #9, structure N (type d = #8: A of #9 | B))", 10},
		{abs(ints(1), typ("t", integer())), 8, "[8] type t = int", 9},
		{abs(ints(1)), 1 << 40, "[1099511627776]", 1<<40 + 1},
		{abs(ints(1, 1), typ("t", stamp(1))), 8, "[8 9] type t = #8", 10},
		{abs(ints(3), typ("u", stamp(3)), typ("t", stamp(3))), 6, "[6] type u = #6, type t = #6", 7},
	} {
		got, end := sigs.Fresh(c.a, c.next)
		if show(got) != c.want || end != c.end {
			t.Errorf("%s from %d: %s, %d, want %s, %d", show(c.a), c.next, show(got), end, c.want, c.end)
		}
	}
	// What is bound within catches nothing, whatever its numbers are.
	inner := abs(ints(1, 2), typ("t", stamp(1)))
	inner.S.Sigs = []api.SigMember{{Name: "S", A: abs(ints(2, 8), val("x", pair(stamp(1), pair(stamp(2), stamp(8)))))}}
	inner.S.Funs = []api.FunMember{{Name: "F", F: api.Fun{Stamps: ints(9), Arg: str(val("x", fn(stamp(9), stamp(2)))), Res: abs(ints(8, 1), val("y", pair(stamp(8), pair(stamp(1), pair(stamp(2), stamp(9))))))}}}
	got, end := sigs.Fresh(inner, 8)
	if !env.SameAbs(got, inner) || tell(got.Stamps) != "[8 9]" || end != 10 {
		t.Errorf("%s, want the same as %s", env.Text(got), env.Text(inner))
	}
}
