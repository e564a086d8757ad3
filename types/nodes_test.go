package types_test

import (
	"math"
	"math/rand"
	"slices"
	"strconv"
	"strings"

	"wafer/api"
)

func node(kind, n int, kids ...api.Type) api.Type { return api.Type{Kind: kind, N: n, Kids: kids} }

func stamp(n int) api.Type { return node(api.TStamp, n) }

func meta(n int) api.Type { return node(api.TMeta, n) }

func gen(n int) api.Type { return node(api.TGen, n) }

func fn(a, b api.Type) api.Type { return node(api.TFn, 0, a, b) }

func pair(a, b api.Type) api.Type { return node(api.TPair, 0, a, b) }

func integer() api.Type { return node(api.TInt, 0) }

func boolean() api.Type { return node(api.TBool, 0) }

func unit() api.Type { return node(api.TUnit, 0) }

// noKinds: numbers that are no kind of a type.
func noKinds() []int { return []int{math.MinInt, -8, -1, 0, 9, 10, 1 << 32, math.MaxInt} }

// edges: numbers at the ends of what may come.
func edges() []int { return []int{math.MinInt, -1, 0, 1, 25, 26, math.MaxInt} }

// leaves: right types without Kids, of every kind that has none.
func leaves() []api.Type {
	return []api.Type{integer(), boolean(), unit(), stamp(0), stamp(3), stamp(math.MaxInt), meta(0), meta(7), gen(0), gen(1), gen(26)}
}

// wrongs: types that are not right by themselves, whatever their Kids are.
func wrongs() []api.Type {
	var l []api.Type
	for _, kind := range noKinds() {
		l = append(l, node(kind, 0), node(kind, 1), node(kind, 0, integer(), boolean()))
	}
	for _, kind := range []int{api.TInt, api.TBool, api.TUnit} {
		for _, n := range []int{math.MinInt, -1, 1, math.MaxInt} {
			l = append(l, node(kind, n))
		}
	}
	for _, kind := range []int{api.TInt, api.TBool, api.TUnit, api.TStamp, api.TMeta, api.TGen} {
		l = append(l, node(kind, 0, stamp(1)), node(kind, 0, stamp(1), meta(2)), node(kind, 0, gen(0), stamp(1), meta(2)))
	}
	for _, kind := range []int{api.TFn, api.TPair} {
		for _, n := range []int{math.MinInt, -1, 1, math.MaxInt} {
			l = append(l, node(kind, n, stamp(1), gen(0)))
		}
		l = append(l, node(kind, 0), api.Type{Kind: kind, Kids: []api.Type{}}, node(kind, 0, stamp(1)), node(kind, 0, stamp(1), gen(0), meta(2)))
	}
	for _, kind := range []int{api.TStamp, api.TMeta, api.TGen} {
		l = append(l, node(kind, -1), node(kind, math.MinInt))
	}
	return l
}

// chosen: one of a list, by chance.
func chosen[E any](r *rand.Rand, l []E) E { return l[r.Intn(len(l))] }

// plain: a right type by chance, with numbers below 4, that is nested at most so deep.
func plain(r *rand.Rand, depth int) api.Type {
	if depth <= 1 || r.Intn(4) == 0 {
		return chosen(r, []api.Type{integer(), boolean(), unit(), stamp(r.Intn(4)), stamp(r.Intn(4)), stamp(r.Intn(4)), meta(r.Intn(4)), gen(r.Intn(4))})
	}
	return node(chosen(r, []int{api.TFn, api.TPair}), 0, plain(r, depth-1), plain(r, depth-1))
}

// wild: any data by chance, nested at most so deep.
func wild(r *rand.Rand, depth int) api.Type {
	if r.Intn(3) == 0 {
		return plain(r, depth)
	}
	t := api.Type{Kind: r.Intn(11) - 1, N: r.Intn(5) - 1}
	if r.Intn(20) == 0 {
		t.Kind, t.N = chosen(r, noKinds()), chosen(r, edges())
	}
	for depth > 1 && r.Intn(3) > 0 {
		t.Kids = append(t.Kids, wild(r, depth-1))
	}
	return t
}

// chain: a type of so many nodes, that is nested as deep as it can be: on the left, on the right, or now here and now there; where the number is even, a TFn at the end has but one of its Kids, and the type is not right.
func chain(nodes, side int, end api.Type) api.Type {
	t := end
	n := 1
	if nodes%2 == 0 {
		t = node(api.TFn, 0, t)
		n++
	}
	for ; n < nodes; n += 2 {
		kind := api.TFn + n/2%2
		if side == 0 || side == 2 && n%3 == 0 {
			t = node(kind, 0, t, integer())
		} else {
			t = node(kind, 0, boolean(), t)
		}
	}
	return t
}

// broad: a type of so many nodes, of which all but the first stand in one list.
func broad(nodes int, kid api.Type) api.Type {
	return node(api.TPair, 0, slices.Repeat([]api.Type{kid}, nodes-1)...)
}

// doubled: pairs of pairs, so deep, of one leaf; of 2 to the depth less 1 nodes.
func doubled(depth int, leaf api.Type) api.Type {
	for range depth - 1 {
		leaf = pair(leaf, leaf)
	}
	return leaf
}

// tell: all that a type has, for an error's text and to hold one against another.
func tell(t api.Type) string {
	var b strings.Builder
	tellIn(&b, t)
	return b.String()
}

func tellIn(b *strings.Builder, t api.Type) {
	b.WriteString(strconv.Itoa(t.Kind) + ":" + strconv.Itoa(t.N))
	b.WriteString("[")
	for _, kid := range t.Kids {
		tellIn(b, kid)
		b.WriteString(" ")
	}
	b.WriteString("]")
}

func tellAll(l []api.Type) string { return tell(api.Type{Kids: l}) }

// brief: a text that is not too long to be told.
func brief(s string) string {
	if len(s) > 300 {
		return s[:300] + ".."
	}
	return s
}

// roomy: a type in new memory, with spare room behind each of its lists, in which something stands.
func roomy(t api.Type) api.Type {
	kids := make([]api.Type, 0, len(t.Kids)+2)
	for _, kid := range t.Kids {
		kids = append(kids, roomy(kid))
	}
	copy(kids[len(kids):cap(kids)], []api.Type{stamp(77), gen(78)})
	t.Kids = kids
	return t
}

func roomyAll(l []api.Type) []api.Type { return roomy(api.Type{Kids: l}).Kids }

// tellRoom: all that a type has, with what stands in the spare room of its lists.
func tellRoom(t api.Type) string {
	var b strings.Builder
	tellRoomIn(&b, t)
	return b.String()
}

func tellRoomIn(b *strings.Builder, t api.Type) {
	b.WriteString(strconv.Itoa(t.Kind) + ":" + strconv.Itoa(t.N) + ":" + strconv.Itoa(len(t.Kids)) + "[")
	for _, kid := range t.Kids[:cap(t.Kids)] {
		tellRoomIn(b, kid)
		b.WriteString(" ")
	}
	b.WriteString("]")
}

// scribble: writes into all lists of a type, and into their spare room.
func scribble(t api.Type) {
	for i, kid := range t.Kids {
		scribble(kid)
		t.Kids[i] = node(55, 56)
	}
	spare := t.Kids[len(t.Kids):cap(t.Kids)]
	for i := range spare {
		spare[i] = node(57, 58)
	}
}
