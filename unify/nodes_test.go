package unify_test

import (
	"math"
	"math/rand"
	"slices"
	"strconv"
	"strings"
	"testing"

	"wafer/api"
	"wafer/unify"
)

func node(kind, n int, kids ...api.Type) api.Type { return api.Type{Kind: kind, N: n, Kids: kids} }

func stamp(n int) api.Type { return node(api.TStamp, n) }

func meta(n int) api.Type { return node(api.TMeta, n) }

func gen(n int) api.Type { return node(api.TGen, n) }

func fn(a, b api.Type) api.Type { return node(api.TFn, 0, a, b) }

func pair(a, b api.Type) api.Type { return node(api.TPair, 0, a, b) }

func integer() api.Type { return node(api.TInt, 0) }

func boolean() api.Type { return node(api.TBool, 0) }

func unit() api.Type { return node(api.TUnit, 0) }

// broad: a type of so many nodes, of which all but the first stand in one list.
func broad(nodes int, kid api.Type) api.Type {
	return node(api.TPair, 0, slices.Repeat([]api.Type{kid}, nodes-1)...)
}

// deep: a type of so many nodes, each but the last with one Kid.
func deep(nodes int, end api.Type) api.Type {
	for range nodes - 1 {
		end = node(api.TFn, 0, end)
	}
	return end
}

// full: a right type of so many nodes, an odd number.
func full(nodes int) api.Type {
	t := integer()
	for n := 1; n < nodes; n += 2 {
		t = fn(boolean(), t)
	}
	return t
}

// chosen: one of a list, by chance.
func chosen[E any](r *rand.Rand, l []E) E { return l[r.Intn(len(l))] }

// plainType: a right type by chance, nested at most so deep, with metas whose numbers are below count.
func plainType(r *rand.Rand, count, depth int) api.Type {
	switch {
	case count > 0 && r.Intn(3) == 0:
		return meta(r.Intn(count))
	case depth <= 1 || r.Intn(4) == 0:
		return chosen(r, []api.Type{integer(), boolean(), unit(), stamp(r.Intn(2)), gen(r.Intn(2))})
	}
	return node(chosen(r, []int{api.TFn, api.TPair}), 0, plainType(r, count, depth-1), plainType(r, count, depth-1))
}

// wildType: any data by chance, nested at most so deep, with metas of which some are not of a store with count of them.
func wildType(r *rand.Rand, count, depth int) api.Type {
	switch r.Intn(6) {
	case 0, 1:
		return plainType(r, count, depth)
	case 2:
		return meta(r.Intn(count+6) - 2)
	case 3:
		return meta(chosen(r, []int{math.MinInt, -1, math.MaxInt, 1 << 32}))
	}
	t := api.Type{Kind: chosen(r, []int{api.TMeta, api.TFn, api.TPair, api.TStamp, 0, 9}), N: r.Intn(3)}
	for depth > 1 && r.Intn(3) > 0 {
		t.Kids = append(t.Kids, wildType(r, count, depth-1))
	}
	return t
}

// tell: all that a type has, for an error's text and to hold one against another.
func tell(t api.Type) string {
	var b strings.Builder
	tellIn(&b, t)
	return b.String()
}

func tellIn(b *strings.Builder, t api.Type) {
	b.WriteString(strconv.Itoa(t.Kind) + ":" + strconv.Itoa(t.N))
	if len(t.Kids) == 0 {
		return
	}
	b.WriteString("[")
	for _, kid := range t.Kids {
		tellIn(b, kid)
		b.WriteString(" ")
	}
	b.WriteString("]")
}

// brief: a type's text, if it is not too long to be told.
func brief(t api.Type) string { return short(tell(t)) }

// short: a text that is not too long to be told.
func short(s string) string {
	if len(s) > 400 {
		return s[:400] + ".."
	}
	return s
}

// roomy: a type in new memory, with spare room behind each of its lists, in which something stands.
func roomy(t api.Type) api.Type {
	kids := make([]api.Type, 0, len(t.Kids)+2)
	for _, kid := range t.Kids {
		kids = append(kids, roomy(kid))
	}
	copy(kids[len(kids):cap(kids)], []api.Type{stamp(77), gen(78)})
	t.Kids = kids
	return t
}

// tellRoom: all that a type has, with what stands in the spare room of its lists.
func tellRoom(t api.Type) string {
	var b strings.Builder
	tellRoomIn(&b, t)
	return b.String()
}

func tellRoomIn(b *strings.Builder, t api.Type) {
	b.WriteString(strconv.Itoa(t.Kind) + ":" + strconv.Itoa(t.N) + ":" + strconv.Itoa(len(t.Kids)) + "[")
	for _, kid := range t.Kids[:cap(t.Kids)] {
		tellRoomIn(b, kid)
		b.WriteString(" ")
	}
	b.WriteString("]")
}

// scribble: writes into all lists of a type, and into their spare room.
func scribble(t api.Type) {
	for i, kid := range t.Kids {
		scribble(kid)
		t.Kids[i] = node(55, 56)
	}
	spare := t.Kids[len(t.Kids):cap(t.Kids)]
	for i := range spare {
		spare[i] = node(57, 58)
	}
}

// countUp: how many nodes a type has.
func countUp(t api.Type) int {
	nodes := 1
	for _, kid := range t.Kids {
		nodes += countUp(kid)
	}
	return nodes
}

// withMetas: a store with so many metas.
func withMetas(count int) *unify.Store {
	s := unify.New()
	for range count {
		s.Meta()
	}
	return s
}

// all: what a store tells of each of its metas.
func all(s *unify.Store) string {
	var b strings.Builder
	b.WriteString(strconv.Itoa(s.Count()))
	for n := range s.Count() {
		x, e := s.Resolve(meta(n))
		b.WriteString("; " + strconv.Itoa(int(e)) + " ")
		tellIn(&b, x)
		for _, m := range s.Open(meta(n)) {
			b.WriteString(" ?" + strconv.Itoa(m))
		}
	}
	return b.String()
}

// must: Unify of two types answers so; if that is an error, nothing has changed.
func must(t *testing.T, s *unify.Store, a, b api.Type, want api.Errno) {
	t.Helper()
	ahead := all(s)
	if got := s.Unify(a, b); got != want {
		t.Fatalf("Unify(%s, %s): %v, want %v; known: %s", brief(a), brief(b), got, want, short(ahead))
	}
	if behind := all(s); want != api.OK && behind != ahead {
		t.Fatalf("Unify(%s, %s): %v, and what was %s is %s", brief(a), brief(b), want, short(ahead), short(behind))
	}
}

// comes: Resolve of a type answers another one.
func comes(t *testing.T, s *unify.Store, x, want api.Type) {
	t.Helper()
	got, e := s.Resolve(x)
	if e != api.OK || tell(got) != tell(want) {
		t.Fatalf("Resolve(%s): %s, %v, want %s", brief(x), brief(got), e, brief(want))
	}
}

// opens: Open of a type answers those numbers.
func opens(t *testing.T, s *unify.Store, x api.Type, want ...int) {
	t.Helper()
	if got := s.Open(x); !slices.Equal(got, want) {
		t.Fatalf("Open(%s): %v, want %v", brief(x), got, want)
	}
}
