package scheme_test

import (
	"math"
	"math/rand"
	"slices"
	"strconv"
	"strings"
	"testing"

	"wafer/api"
)

func node(kind, n int, kids ...api.Type) api.Type { return api.Type{Kind: kind, N: n, Kids: kids} }

func stamp(n int) api.Type { return node(api.TStamp, n) }

func meta(n int) api.Type { return node(api.TMeta, n) }

func gen(n int) api.Type { return node(api.TGen, n) }

func fn(a, b api.Type) api.Type { return node(api.TFn, 0, a, b) }

func pair(a, b api.Type) api.Type { return node(api.TPair, 0, a, b) }

func integer() api.Type { return node(api.TInt, 0) }

func boolean() api.Type { return node(api.TBool, 0) }

func unit() api.Type { return node(api.TUnit, 0) }

func list(l ...api.Type) []api.Type { return l }

// of: a scheme.
func of(gens int, t api.Type) api.Scheme { return api.Scheme{Gens: gens, T: t} }

// edges: numbers at the ends of what may come.
func edges() []int {
	return []int{math.MinInt, math.MinInt32, -2, -1, 0, 1, math.MaxInt32, math.MaxInt32 + 1, math.MaxInt}
}

// wrongTypes: types that are not right, though their TGen, as far as they have some, count up from 0.
func wrongTypes() []api.Type {
	l := []api.Type{{}, node(9, 0), node(-1, 0), node(math.MaxInt, 0), node(9, 0, integer(), integer())}
	for _, kind := range []int{api.TInt, api.TBool, api.TUnit} {
		l = append(l, node(kind, 1), node(kind, -1), node(kind, 0, integer()), node(kind, 0, gen(0), gen(1)))
	}
	for _, kind := range []int{api.TFn, api.TPair} {
		l = append(l, node(kind, 0), node(kind, 0, gen(0)), node(kind, 0, gen(0), gen(1), gen(2)), node(kind, 1, gen(0), gen(1)), node(kind, -1, integer(), unit()))
	}
	for _, kind := range []int{api.TStamp, api.TMeta, api.TGen} {
		l = append(l, node(kind, -1), node(kind, math.MinInt), node(kind, 0, integer()), node(kind, 0, gen(0), gen(1)))
	}
	return l
}

// wrongs: schemes that are not right, for each reason that there is.
func wrongs() []api.Scheme {
	l := []api.Scheme{
		{}, of(-1, integer()), of(1, integer()), of(math.MaxInt, integer()), of(math.MinInt, integer()),
		of(0, gen(0)), of(2, gen(0)), of(-1, gen(0)), of(1, gen(1)), of(2, gen(1)), of(1, gen(-1)), of(0, gen(-1)), of(1, gen(math.MaxInt)), of(math.MaxInt, gen(math.MaxInt-1)),
		of(2, fn(gen(1), gen(0))), of(2, fn(gen(1), fn(gen(0), gen(1)))), of(1, fn(gen(0), gen(1))), of(3, fn(gen(0), gen(1))), of(3, fn(gen(0), gen(2))), of(2, fn(gen(0), gen(2))),
		of(3, fn(gen(0), fn(gen(2), gen(1)))), of(2, fn(gen(0), fn(gen(1), gen(-1)))),
	}
	for _, x := range wrongTypes() {
		for gens := range 4 {
			l = append(l, of(gens, x), of(gens, fn(x, unit())), of(gens, pair(unit(), x)))
		}
	}
	return l
}

// rights: right schemes, any two of which are unlike.
func rights() []api.Scheme {
	a, b, c, i := gen(0), gen(1), gen(2), integer()
	return []api.Scheme{
		of(0, i), of(0, boolean()), of(0, unit()), of(0, stamp(0)), of(0, stamp(1)), of(0, stamp(math.MaxInt)), of(0, meta(0)), of(0, meta(1)), of(0, meta(math.MaxInt)),
		of(0, fn(i, i)), of(0, fn(i, boolean())), of(0, pair(i, i)), of(0, fn(meta(0), meta(0))), of(0, fn(meta(0), meta(1))), of(0, fn(stamp(0), stamp(0))), of(0, fn(fn(i, i), i)), of(0, fn(i, fn(i, i))),
		of(1, a), of(1, fn(a, a)), of(1, pair(a, a)), of(1, fn(a, i)), of(1, fn(i, a)), of(1, fn(a, meta(0))), of(1, fn(stamp(0), a)), of(1, fn(a, fn(a, a))), of(1, fn(fn(a, a), a)), of(1, fn(fn(a, a), fn(a, a))), of(1, fn(pair(a, i), a)), of(1, fn(a, fn(i, a))),
		of(2, fn(a, b)), of(2, pair(a, b)), of(2, fn(a, fn(b, a))), of(2, fn(a, fn(b, b))), of(2, fn(fn(a, b), a)), of(2, fn(fn(a, b), fn(a, b))), of(2, fn(fn(a, b), fn(b, a))), of(2, fn(pair(a, b), a)), of(2, fn(pair(a, b), b)),
		of(3, fn(a, fn(b, c))), of(3, fn(fn(a, b), fn(fn(b, c), fn(a, c)))), of(3, pair(pair(a, b), c)),
	}
}

// chosen: one of a list, by chance.
func chosen[E any](r *rand.Rand, l []E) E { return l[r.Intn(len(l))] }

// grown: a type by chance, nested at most so deep, of those leaves.
func grown(r *rand.Rand, depth int, leaves ...api.Type) api.Type {
	if depth <= 1 || r.Intn(4) == 0 {
		return chosen(r, leaves)
	}
	return node(chosen(r, []int{api.TFn, api.TPair}), 0, grown(r, depth-1, leaves...), grown(r, depth-1, leaves...))
}

// closed: a right type by chance without TGen, with few metas and stamps.
func closed(r *rand.Rand, depth int) api.Type {
	return grown(r, depth, integer(), boolean(), unit(), stamp(r.Intn(3)), meta(r.Intn(4)), meta(r.Intn(4)), meta(r.Intn(4)))
}

// open: a right type by chance, with few metas, stamps and TGen.
func open(r *rand.Rand, depth int) api.Type {
	return grown(r, depth, integer(), boolean(), stamp(r.Intn(3)), meta(r.Intn(4)), meta(r.Intn(4)), gen(r.Intn(4)), gen(r.Intn(4)), gen(r.Intn(4)))
}

// rightScheme: a right scheme by chance.
func rightScheme(r *rand.Rand, depth int) api.Scheme { return plainCanonical(of(0, open(r, depth))) }

// wild: any data by chance, nested at most so deep.
func wild(r *rand.Rand, depth int) api.Type {
	if r.Intn(3) == 0 {
		return open(r, depth)
	}
	t := api.Type{Kind: chosen(r, []int{api.TGen, api.TGen, api.TMeta, api.TMeta, api.TFn, api.TPair, api.TStamp, api.TInt, 0, 9}), N: r.Intn(6) - 2}
	if r.Intn(12) == 0 {
		t.N = chosen(r, edges())
	}
	for depth > 1 && r.Intn(3) > 0 {
		t.Kids = append(t.Kids, wild(r, depth-1))
	}
	return t
}

// wildScheme: any scheme by chance; more than a third of them are right.
func wildScheme(r *rand.Rand, depth int) api.Scheme {
	switch r.Intn(5) {
	case 0:
		return of(r.Intn(6)-1, wild(r, depth))
	case 1:
		return of(r.Intn(5), open(r, depth))
	case 2:
		s := rightScheme(r, depth)
		s.Gens = chosen(r, []int{s.Gens, s.Gens + 1, s.Gens - 1, math.MaxInt, math.MinInt})
		return s
	}
	return rightScheme(r, depth)
}

// full: a right type of so many nodes, an odd number, with such a leaf at its end.
func full(nodes int, end api.Type) api.Type {
	for n := 1; n < nodes; n += 2 {
		end = fn(boolean(), end)
	}
	return end
}

// many: pairs of the nodes of a kind with those numbers, one within the other.
func many(kind int, numbers []int) api.Type {
	t := unit()
	for _, n := range slices.Backward(numbers) {
		t = pair(node(kind, n), t)
	}
	return t
}

// upTo: 0, 1, .. , so many numbers.
func upTo(count int) []int {
	l := make([]int, count)
	for i := range l {
		l[i] = i
	}
	return l
}

// tell: all that a type has, for an error's text and to hold one against another.
func tell(t api.Type) string {
	var b strings.Builder
	tellIn(&b, t)
	return b.String()
}

func tellIn(b *strings.Builder, t api.Type) {
	b.WriteString(strconv.Itoa(t.Kind) + ":" + strconv.Itoa(t.N))
	if len(t.Kids) == 0 {
		return
	}
	b.WriteString("[")
	for _, kid := range t.Kids {
		tellIn(b, kid)
		b.WriteString(" ")
	}
	b.WriteString("]")
}

func tellAll(l []api.Type) string { return strconv.Itoa(len(l)) + tell(api.Type{Kids: l}) }

func tellScheme(s api.Scheme) string { return "Gens " + strconv.Itoa(s.Gens) + ", " + tell(s.T) }

// brief: a text that is not too long to be told.
func brief(s string) string {
	if len(s) > 400 {
		return s[:400] + ".."
	}
	return s
}

// roomy: a type in new memory, with spare room behind each of its lists, in which something stands.
func roomy(t api.Type) api.Type {
	kids := make([]api.Type, 0, len(t.Kids)+2)
	for _, kid := range t.Kids {
		kids = append(kids, roomy(kid))
	}
	copy(kids[len(kids):cap(kids)], []api.Type{stamp(77), gen(78)})
	t.Kids = kids
	return t
}

// tellRoom: all that types have, with what stands in the spare room of their lists.
func tellRoom(l ...api.Type) string {
	var b strings.Builder
	for _, t := range l {
		tellRoomIn(&b, t)
	}
	return b.String()
}

func tellRoomIn(b *strings.Builder, t api.Type) {
	b.WriteString(strconv.Itoa(t.Kind) + ":" + strconv.Itoa(t.N) + ":" + strconv.Itoa(len(t.Kids)) + "[")
	for _, kid := range t.Kids[:cap(t.Kids)] {
		tellRoomIn(b, kid)
		b.WriteString(" ")
	}
	b.WriteString("]")
}

// scribble: writes into all lists of a type, and into their spare room.
func scribble(t api.Type) {
	for i, kid := range t.Kids {
		scribble(kid)
		t.Kids[i] = node(55, 56)
	}
	spare := t.Kids[len(t.Kids):cap(t.Kids)]
	for i := range spare {
		spare[i] = node(57, 58)
	}
}

// same: two texts that tell an answer are alike.
func same(t *testing.T, what, got, want string) {
	t.Helper()
	if got != want {
		t.Fatalf("%s: %s, want %s", brief(what), brief(got), brief(want))
	}
}
