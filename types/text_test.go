package types_test

import (
	"math"
	"math/rand"
	"slices"
	"strconv"
	"strings"
	"testing"

	"wafer/api"
	"wafer/types"
)

func wantText(t *testing.T, x api.Type, want string) {
	t.Helper()
	if got := types.Text(x); got != want {
		t.Errorf("Text of %s: %q, want %q", brief(tell(x)), brief(got), brief(want))
	}
	for _, gens := range []int{-1, 0, 1, math.MaxInt} {
		if got := types.SchemeText(api.Scheme{Gens: gens, T: x}); got != want {
			t.Errorf("SchemeText of Gens %d, %s: %q, want %q", gens, brief(tell(x)), brief(got), brief(want))
		}
	}
}

func TestF84Examples(t *testing.T) {
	i := integer()
	wantText(t, fn(fn(i, boolean()), pair(unit(), stamp(3))), "(int -> bool) -> unit * #3")
	wantText(t, pair(pair(i, i), i), "int * int * int")
	wantText(t, pair(i, pair(i, i)), "int * (int * int)")
	wantText(t, gen(1), "'b")
	wantText(t, gen(25), "'z")
	wantText(t, gen(26), "'a1")
	wantText(t, gen(53), "'b2")
	wantText(t, meta(7), "?7")
}

func TestF84Leaves(t *testing.T) {
	wantText(t, integer(), "int")
	wantText(t, boolean(), "bool")
	wantText(t, unit(), "unit")
	for n, digits := range map[int]string{0: "0", 7: "7", 10: "10", 123456: "123456", -1: "-1", -20: "-20", math.MaxInt: "9223372036854775807", math.MinInt: "-9223372036854775808"} {
		wantText(t, stamp(n), "#"+digits)
		wantText(t, meta(n), "?"+digits)
	}
}

func TestF84Gens(t *testing.T) {
	for n, want := range map[int]string{
		0: "'a", 1: "'b", 24: "'y", 25: "'z", 26: "'a1", 27: "'b1", 51: "'z1", 52: "'a2", 77: "'z2", 78: "'a3",
		259: "'z9", 260: "'a10", 26*100 - 1: "'z99", 26 * 100: "'a100", math.MaxInt: "'h354745078340568300", // 26 * 354745078340568300 + 7
		-1: "'?", -26: "'?", -27: "'?", math.MinInt: "'?",
	} {
		wantText(t, gen(n), want)
	}
	seen := map[string]int{}
	for n := range 10000 {
		s := types.Text(gen(n))
		if m, twice := seen[s]; twice {
			t.Errorf("TGen %d and %d: %q", m, n, s)
		}
		seen[s] = n
	}
}

// piece: a type, its text alone, and whether it is a TFn or a TPair with two Kids.
type piece struct {
	x       api.Type
	text    string
	fn, two bool
}

// pieces: of every kind, right ones and others.
func pieces() []piece {
	l := []piece{
		{x: integer(), text: "int"}, {x: boolean(), text: "bool"}, {x: unit(), text: "unit"},
		{x: stamp(3), text: "#3"}, {x: stamp(-3), text: "#-3"}, {x: meta(0), text: "?0"}, {x: meta(-1), text: "?-1"},
		{x: gen(2), text: "'c"}, {x: gen(30), text: "'e1"}, {x: gen(-1), text: "'?"},
		{x: fn(integer(), unit()), text: "int -> unit", fn: true}, {x: node(api.TFn, 5, gen(0), gen(1)), text: "'a -> 'b", fn: true},
		{x: fn(fn(unit(), unit()), fn(unit(), unit())), text: "(unit -> unit) -> unit -> unit", fn: true},
		{x: pair(integer(), unit()), text: "int * unit", two: true}, {x: node(api.TPair, -5, gen(0), gen(1)), text: "'a * 'b", two: true},
		{x: pair(fn(unit(), unit()), fn(unit(), unit())), text: "(unit -> unit) * (unit -> unit)", two: true},
		{x: node(api.TInt, 9, unit()), text: "int"}, {x: node(api.TBool, -9, unit(), unit()), text: "bool"}, {x: node(api.TUnit, 1), text: "unit"},
		{x: node(api.TStamp, 4, unit(), unit()), text: "#4"}, {x: node(api.TMeta, 4, unit()), text: "?4"}, {x: node(api.TGen, 4, unit(), unit(), unit()), text: "'e"},
		{x: api.Type{}, text: "?"},
	}
	for _, kind := range []int{api.TFn, api.TPair} {
		for _, kids := range [][]api.Type{nil, {}, {unit()}, {unit(), unit(), unit()}, slices.Repeat([]api.Type{unit()}, 4)} {
			l = append(l, piece{x: node(kind, 0, kids...), text: "?"})
		}
	}
	for _, kind := range noKinds() {
		l = append(l, piece{x: node(kind, 3), text: "?"}, piece{x: node(kind, 0, unit(), unit()), text: "?"})
	}
	return l
}

func around(s string, in bool) string {
	if in {
		return "(" + s + ")"
	}
	return s
}

// TestF84Parentheses: the texts of every kind within every kind.
func TestF84Parentheses(t *testing.T) {
	for _, a := range pieces() {
		wantText(t, a.x, a.text)
		for _, b := range pieces() {
			arrow := around(a.text, a.fn) + " -> " + b.text
			product := around(a.text, a.fn) + " * " + around(b.text, b.fn || b.two)
			wantText(t, fn(a.x, b.x), arrow)
			wantText(t, pair(a.x, b.x), product)
			wantText(t, node(api.TFn, 3, a.x, b.x), arrow)
			wantText(t, node(api.TPair, -3, a.x, b.x), product)
			wantText(t, pair(unit(), pair(a.x, b.x)), "unit * ("+product+")")
			wantText(t, pair(pair(a.x, b.x), unit()), product+" * unit")
			wantText(t, fn(fn(a.x, b.x), fn(a.x, b.x)), "("+arrow+") -> "+arrow)
			wantText(t, pair(fn(a.x, b.x), fn(a.x, b.x)), "("+arrow+") * ("+arrow+")")
			wantText(t, fn(pair(a.x, b.x), pair(a.x, b.x)), product+" -> "+product)
			for _, kind := range []int{0, 9, api.TFn, api.TPair} {
				wantText(t, node(kind, 0, a.x, b.x, a.x), "?")
				wantText(t, fn(node(kind, 0, a.x), unit()), "? -> unit")
				wantText(t, pair(unit(), node(kind, 0, b.x)), "unit * ?")
			}
			for kind, want := range map[int]string{api.TInt: "int", api.TBool: "bool", api.TUnit: "unit", api.TStamp: "#1", api.TMeta: "?1", api.TGen: "'b"} {
				wantText(t, node(kind, 1, a.x, b.x), want)
			}
		}
	}
}

// TestF84Great: texts of types that are deep, or far greater than MaxType.
func TestF84Great(t *testing.T) {
	const deep = 50000
	left, right, product, nested := unit(), unit(), unit(), unit()
	for range deep {
		left, right = fn(left, integer()), fn(integer(), right)
		product, nested = pair(product, integer()), pair(integer(), nested)
	}
	wantText(t, left, strings.Repeat("(", deep-1)+"unit -> int"+strings.Repeat(") -> int", deep-1))
	wantText(t, right, strings.Repeat("int -> ", deep)+"unit")
	wantText(t, product, "unit"+strings.Repeat(" * int", deep))
	wantText(t, nested, strings.Repeat("int * (", deep-1)+"int * unit"+strings.Repeat(")", deep-1))
	if s := types.Text(doubled(16, stamp(12))); strings.Count(s, "#12") != 1<<15 {
		t.Errorf("Text of a great type: %d bytes", len(s))
	}
	wantText(t, broad(100000, unit()), "?")
	wantText(t, pair(doubled(3, gen(0)), unit()), "'a * 'a * ('a * 'a) * unit")
}

// reader: reads the text of a right type again.
type reader struct{ s string }

func (r *reader) take(mark string) bool {
	rest, ok := strings.CutPrefix(r.s, mark)
	r.s = rest
	return ok
}

func (r *reader) number() int {
	end := 0
	for end < len(r.s) && r.s[end] >= '0' && r.s[end] <= '9' {
		end++
	}
	n, _ := strconv.Atoi(r.s[:end])
	r.s = r.s[end:]
	return n
}

func (r *reader) arrow() api.Type {
	t := r.product()
	if r.take(" -> ") {
		return fn(t, r.arrow())
	}
	return t
}

func (r *reader) product() api.Type {
	t := r.leaf()
	for r.take(" * ") {
		t = pair(t, r.leaf())
	}
	return t
}

func (r *reader) leaf() api.Type {
	switch {
	case r.take("("):
		t := r.arrow()
		r.take(")")
		return t
	case r.take("int"):
		return integer()
	case r.take("bool"):
		return boolean()
	case r.take("unit"):
		return unit()
	case r.take("#"):
		return stamp(r.number())
	case r.take("?"):
		return meta(r.number())
	case r.take("'") && r.s != "":
		letter := int(r.s[0] - 'a')
		r.s = r.s[1:]
		return gen(letter + 26*r.number())
	}
	return api.Type{}
}

// TestP803Back: from the text of a right type just that type is read.
func TestP803Back(t *testing.T) {
	r := rand.New(rand.NewSource(803))
	for range 4000 {
		x := plain(r, 7)
		for _, kind := range []int{api.TStamp, api.TMeta, api.TGen} {
			x, _ = types.Replace(x, kind, []int{0, 1}, list(node(kind, r.Intn(100)), node(kind, r.Intn(math.MaxInt))))
		}
		s := types.Text(x)
		in := reader{s}
		if y := in.arrow(); in.s != "" || tell(y) != tell(x) {
			t.Fatalf("%q is read as %s, not as %s", brief(s), brief(tell(y)), brief(tell(x)))
		}
	}
}

// TestP803Unlike: all right types that are nested at most three deep, of some leaves, have texts of their own.
func TestP803Unlike(t *testing.T) {
	l := list(integer(), boolean(), unit(), stamp(0), stamp(1), stamp(11), meta(0), meta(1), gen(0), gen(1), gen(26), gen(37))
	small := slices.Clone(l)
	for _, a := range small {
		for _, b := range small {
			l = append(l, fn(a, b), pair(a, b))
		}
	}
	two := slices.Clone(l)
	seen := map[string]api.Type{}
	for _, x := range two {
		for _, y := range two {
			for _, z := range list(x, fn(x, y), pair(x, y)) {
				s := types.Text(z)
				if w, twice := seen[s]; twice && types.Cmp(w, z) != 0 {
					t.Fatalf("%q is the text of %s and of %s", s, tell(w), tell(z))
				}
				seen[s] = z
			}
		}
	}
	if len(seen) < 2*len(two)*len(two) {
		t.Errorf("%d texts of %d types", len(seen), 2*len(two)*len(two))
	}
}
