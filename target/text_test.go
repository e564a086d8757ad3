package target_test

import (
	"math"
	"math/rand"
	"strconv"
	"strings"
	"testing"

	"wafer/api"
	"wafer/target"
)

func TestP906Examples(t *testing.T) {
	i := integer()
	for _, c := range []struct {
		x    api.TT
		want string
	}{
		{all(1, fn(v(1), v(2))), "all t0. t0 -> #2"},
		{fn(fn(i, i), i), "(int -> int) -> int"},
		{rec("a b", i, sum(unit(), i)), "{a: int, b: [unit | int]}"},

		{i, "int"}, {boolean(), "bool"}, {unit(), "unit"},
		{v(0), "#0"}, {v(12), "#12"}, {v(-7), "#-7"}, {v(math.MinInt), "#-9223372036854775808"}, {v(math.MaxInt), "#9223372036854775807"},
		{fn(i, fn(boolean(), unit())), "int -> bool -> unit"}, {pair(i, boolean()), "(int * bool)"},
		{pair(pair(i, i), pair(i, i)), "((int * int) * (int * int))"},
		{rec(""), "{}"}, {rec("l", i), "{l: int}"}, {sum(), "[]"}, {sum(i), "[int]"}, {sum(i, i, i), "[int | int | int]"},
		{api.TT{Kind: api.GRec, Labels: []string{"", "Nil()", "out list"}, Kids: []api.TT{i, i, i}}, "{: int, Nil(): int, out list: int}"},
		{mu(5, v(5)), "mu t0. t0"}, {some(5, v(6)), "some t0. #6"}, {all(5, integer()), "all t0. int"},
		{all(1, all(2, all(3, fn(v(1), fn(v(2), v(3)))))), "all t0. all t1. all t2. t0 -> t1 -> t2"},
		{all(1, fn(mu(1, v(1)), fn(some(2, fn(v(1), v(2))), v(1)))), "all t0. (mu t1. t1) -> (some t1. t0 -> t1) -> t0"},
		{fn(all(1, v(1)), v(1)), "(all t0. t0) -> #1"}, {fn(v(1), all(1, v(1))), "#1 -> all t0. t0"},
		{fn(all(1, v(1)), all(1, v(1))), "(all t0. t0) -> all t0. t0"},
		{all(1, pair(all(2, v(2)), all(3, v(3)))), "all t0. ((all t1. t1) * (all t1. t1))"},
		{all(1, all(1, v(1))), "all t0. all t1. t1"}, {all(-1, fn(v(-1), v(-2))), "all t0. t0 -> #-2"},
		// Only Kids, and Labels of a GRec, are counted.
		{tt(api.GInt, 4), "int"}, {api.TT{Kind: api.GBool, Labels: []string{"a"}}, "bool"}, {tt(api.GSum, 3), "[]"},
		{api.TT{Kind: api.GFn, N: 3, Labels: []string{"a"}, Kids: []api.TT{i, i}}, "int -> int"}, {api.TT{Kind: api.GMu, N: 3, Labels: []string{"a"}, Kids: []api.TT{v(3)}}, "mu t0. t0"},
		{rec("b a", i, i), "{b: int, a: int}"}, {rec("a a", i, i), "{a: int, a: int}"},
	} {
		if got := target.Text(c.x); got != c.want {
			t.Errorf("Text: %q, want %q", got, c.want)
		}
	}
}

// TestP906Unknown: nodes that are '?', by themselves and in others.
func TestP906Unknown(t *testing.T) {
	i := integer()
	l := []api.TT{rec("a"), rec("a b", i), rec("", i), rec("a", i, i)}
	for _, kind := range []int{math.MinInt, -1, 0, 12, 13, math.MaxInt} {
		l = append(l, tt(kind, 0), tt(kind, 1, i), tt(kind, 1, i, i))
	}
	for _, kind := range []int{api.GInt, api.GBool, api.GUnit, api.GVar} {
		l = append(l, tt(kind, 1, i), tt(kind, 1, i, i))
	}
	l = append(l, tt(api.GPair, 0), tt(api.GPair, 0, i), tt(api.GPair, 0, i, i, i))
	for _, x := range l {
		for whole, want := range map[string]api.TT{
			"?": x, "? -> int": fn(x, i), "int -> ?": fn(i, x), "(? * ?)": pair(x, x), "{a: ?}": rec("a", x), "[? | int]": sum(x, i), "mu t0. ?": mu(1, x), "all t0. ? -> t0": all(1, fn(x, v(1))), "some t0. ?": some(1, x),
		} {
			if got := target.Text(want); got != whole {
				t.Errorf("Text of %s: %q, want %q", plainType0(want), got, whole)
			}
		}
	}
	for _, x := range []api.TT{
		tt(api.GFn, 0), tt(api.GFn, 0, i), tt(api.GFn, 0, i, i, i), tt(api.GMu, 0), tt(api.GMu, 0, i, i), tt(api.GAll, 0), tt(api.GAll, 0, i, i), tt(api.GEx, 0), tt(api.GEx, 0, i, i),
	} {
		// A GFn, GMu, GAll or GEx stands in parentheses, whatever its own text is.
		for whole, want := range map[string]api.TT{"?": x, "int -> ?": fn(i, x), "all t0. ?": all(1, x), "(?) -> ?": fn(x, x), "((?) * int)": pair(x, i), "{a: (?)}": rec("a", x), "[(?)]": sum(x)} {
			if got := target.Text(want); got != whole {
				t.Errorf("Text of %s: %q, want %q", plainType0(want), got, whole)
			}
		}
	}
}

// TestP906EachInEach: every kind within every kind: which of them stand in parentheses where.
func TestP906EachInEach(t *testing.T) {
	inner := []struct {
		x    api.TT
		text string
		open bool
	}{
		{integer(), "int", false}, {boolean(), "bool", false}, {unit(), "unit", false}, {v(3), "#3", false},
		{fn(v(3), unit()), "#3 -> unit", true}, {pair(v(3), unit()), "(#3 * unit)", false},
		{rec("m", v(3)), "{m: #3}", false}, {sum(v(3)), "[#3]", false},
		{mu(4, v(4)), "mu t. t", true}, {all(4, v(4)), "all t. t", true}, {some(4, v(4)), "some t. t", true},
	}
	for _, in := range inner {
		at := func(level int, closed bool) string {
			s := strings.ReplaceAll(in.text, " t", " t"+strconv.Itoa(level))
			if in.open && closed {
				return "(" + s + ")"
			}
			return s
		}
		for _, c := range []struct {
			x    api.TT
			want string
		}{
			{in.x, at(0, false)},
			{fn(in.x, unit()), at(0, true) + " -> unit"}, {fn(unit(), in.x), "unit -> " + at(0, false)},
			{pair(in.x, unit()), "(" + at(0, true) + " * unit)"}, {pair(unit(), in.x), "(unit * " + at(0, true) + ")"},
			{rec("l m", in.x, in.x), "{l: " + at(0, true) + ", m: " + at(0, true) + "}"},
			{sum(in.x, unit(), in.x), "[" + at(0, true) + " | unit | " + at(0, true) + "]"},
			{mu(2, in.x), "mu t0. " + at(1, false)}, {all(2, in.x), "all t0. " + at(1, false)}, {some(2, in.x), "some t0. " + at(1, false)},
		} {
			if got := target.Text(c.x); got != c.want {
				t.Errorf("Text: %q, want %q", got, c.want)
			}
		}
	}
}

// reader: reads a type's text back.
type reader struct {
	*testing.T
	rest string
}

func (r *reader) take(s string) bool {
	rest, ok := strings.CutPrefix(r.rest, s)
	r.rest = rest
	return ok
}

func (r *reader) need(s string) {
	if !r.take(s) {
		r.Fatalf("%q, where %q must stand", brief(r.rest), s)
	}
}

func (r *reader) number() int {
	end := 0
	for end < len(r.rest) && strings.IndexByte("-0123456789", r.rest[end]) >= 0 {
		end++
	}
	n, err := strconv.Atoi(r.rest[:end])
	if err != nil {
		r.Fatal(err)
	}
	r.rest = r.rest[end:]
	return n
}

// readAs: what a bound number of a level is read as.
const readAs = 1000

func (r *reader) read() api.TT {
	for word, kind := range map[string]int{"mu t": api.GMu, "all t": api.GAll, "some t": api.GEx} {
		if r.take(word) {
			n := r.number()
			r.need(". ")
			return tt(kind, readAs+n, r.read())
		}
	}
	first := r.closed()
	if r.take(" -> ") {
		return fn(first, r.read())
	}
	return first
}

func (r *reader) closed() api.TT {
	switch {
	case r.take("int"):
		return integer()
	case r.take("bool"):
		return boolean()
	case r.take("unit"):
		return unit()
	case r.take("#"):
		return v(r.number())
	case r.take("t"):
		return v(readAs + r.number())
	case r.take("("):
		first := r.read()
		if r.take(" * ") {
			first = pair(first, r.closed())
		}
		r.need(")")
		return first
	case r.take("["):
		out := sum()
		for !r.take("]") {
			out.Kids = append(out.Kids, r.closed())
			r.take(" | ")
		}
		return out
	}
	r.need("{")
	out := rec("")
	for !r.take("}") {
		label, rest, _ := strings.Cut(r.rest, ": ")
		r.rest = rest
		out.Labels, out.Kids = append(out.Labels, label), append(out.Kids, r.closed())
		r.take(", ")
	}
	return out
}

// TestP907Text: what is read of a text is one with the type, so that texts of others are other ones.
func TestP907Text(t *testing.T) {
	r := rand.New(rand.NewSource(9072))
	for range 20000 {
		a := plainType(r, 6)
		text := target.Text(a)
		read := reader{t, text}
		if b := read.read(); read.rest != "" || !target.SameType(a, b) || target.Text(b) != text {
			t.Fatalf("%s: %q is read as %s", plainType0(a), text, plainType0(b))
		}
		b := other(r, a, nil)
		if same := plainType0(a) == plainType0(b); same != (target.Text(b) == text) {
			t.Fatalf("%s, %s: %q, %q", plainType0(a), plainType0(b), text, target.Text(b))
		}
	}
}

// TestP906Deep: texts of what is nested deep.
func TestP906Deep(t *testing.T) {
	text := target.Text(nest(api.GAll, 3000, 5, v(7)))
	if !strings.HasPrefix(text, "all t0. ((t0 * t0) * (all t1. ((t1 * t0) * (all t2. ") || !strings.Contains(text, " (all t2999. ((t2999 * t0) * t2))") {
		t.Errorf("%s .. %s", text[:60], text[len(text)-3000:])
	}
	if got := target.Text(chain(api.GSum, deepest, v(1))); strings.Count(got, "[unit | ") != deepest-1 {
		t.Errorf("a deep type: %d bytes", len(got))
	}
	if a, b := target.Show(xchain(deepest, x("a"))), target.Show(xchain(deepest, x("b"))); a == b {
		t.Error("deep terms that are not one have one text")
	}
}

// hard: names and labels that hold signs and blanks.
func hard() []string {
	return []string{"", " ", "a", "a b", "a, b", "b, c", "c", "a\", \"b", "\"a\"", "\\", "\\\"", "a: int, b", "x0", "@0", "_", "t0", "#1", "(", ")", "a(b)", "[a]", "<", ">", "\x00", "\n", "\xff", "\ufffd", "\xc3\xa4", "var", "a]", "][", "1", "-1", "'", "`", "Nil()", "out list"}
}

// TestP906Show: terms whose names and labels hold signs and blanks have one text just where they are one.
func TestP906Show(t *testing.T) {
	i := integer()
	kids := func(n int) []api.TM {
		var l []api.TM
		for k := range n {
			l = append(l, xint(int64(k)))
		}
		return l
	}
	var l []api.TM
	for _, s := range hard() {
		l = append(l, x(s), app(x(s), x(s)), lam("q", i, x(s)), api.TM{Kind: api.XSel, Name: s, Kids: kids(1)}, let("", x(s), x("")), fix("b", s, i, i, x("b")), xall(0, x(s)))
		l = append(l, api.TM{Kind: api.XRec, Labels: []string{s}, Kids: kids(1)}, fail(api.TT{Kind: api.GRec, Labels: []string{s}, Kids: []api.TT{i}}))
		for _, u := range hard() {
			l = append(l, app(x(s), x(u)), lam(s, i, x(u)), api.TM{Kind: api.XRec, Labels: []string{s, u}, Kids: kids(2)})
			l = append(l, fail(api.TT{Kind: api.GRec, Labels: []string{s, u}, Kids: []api.TT{i, i}}), api.TM{Kind: api.XSel, Name: s, Kids: []api.TM{x(u)}})
		}
	}
	for n := range 4 {
		for _, k := range []int{-11, -1, 0, 1, 11} {
			l = append(l, api.TM{Kind: api.XInj, N: max(k, 0), Types: []api.TT{sum(v(n))}, Kids: kids(1)}, xint(int64(k)), fail(v(k)), fail(all(n, v(k))), xall(n, fail(v(k))), fail(fn(v(n), v(k))))
		}
		l = append(l, api.TM{Kind: api.XRec, Labels: letters(n), Kids: kids(n)}, xcase("a b c"[:max(2*n-1, 0)], kids(n+1)...), fail(sum(make([]api.TT, n)...)))
	}
	seen := map[string]string{}
	whose := map[string]string{}
	for _, m := range l {
		show, plain := target.Show(m), plainTerm0(m)
		if was, ok := seen[show]; ok && was != plain {
			t.Fatalf("%s and %s are both %q", was, plain, show)
		}
		if was, ok := whose[plain]; ok && was != show {
			t.Fatalf("%s is %q and %q", plain, was, show)
		}
		seen[show], whose[plain] = plain, show
	}
	if len(seen) < 3000 {
		t.Errorf("only %d texts", len(seen))
	}
}

// TestP906ShowByChance: over many small terms, right or not.
func TestP906ShowByChance(t *testing.T) {
	r := rand.New(rand.NewSource(906))
	seen := map[string]string{}
	whose := map[string]string{}
	for range 60000 {
		m := chosen(r, plainTerm, wildTerm)(r, 1+r.Intn(3))
		show, plain := target.Show(m), plainTerm0(m)
		if was, ok := seen[show]; ok && was != plain {
			t.Fatalf("%s and %s are both %q", was, plain, show)
		}
		if was, ok := whose[plain]; ok && was != show {
			t.Fatalf("%s is %q and %q", plain, was, show)
		}
		seen[show], whose[plain] = plain, show
	}
}
