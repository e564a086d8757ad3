package unify_test

import (
	"math/rand"
	"slices"
	"testing"

	"wafer/api"
	"wafer/unify"
)

// both: a store, and one by the chapter's words alone.
type both struct {
	s *unify.Store
	p *plainStore
}

// agree: both tell the same of all metas, and of a type.
func (b both) agree(t *testing.T, x api.Type) {
	t.Helper()
	if b.s.Count() != b.p.count {
		t.Fatalf("Count: %d, want %d", b.s.Count(), b.p.count)
	}
	asked := []api.Type{x}
	for n := range b.p.count + 2 {
		asked = append(asked, meta(n))
	}
	by, _ := b.p.solved()
	for _, x := range asked {
		want, wantError := b.p.resolve(x, by)
		got, e := b.s.Resolve(x)
		if tell(got) != tell(want) || e != wantError {
			t.Fatalf("Resolve(%s): %s, %v, want %s, %v; %s", brief(x), brief(got), e, brief(want), wantError, b.told())
		}
		if got, want := b.s.Open(x), b.p.open(x, by); !slices.Equal(got, want) {
			t.Fatalf("Open(%s): %v, want %v; %s", brief(x), got, want, b.told())
		}
	}
}

// told: the pairs that were made the same.
func (b both) told() string {
	s := "pairs:"
	for _, p := range b.p.pairs {
		s += " " + brief(p[0]) + " = " + brief(p[1]) + ";"
	}
	return s
}

func (b both) unify(t *testing.T, x, y api.Type) api.Errno {
	t.Helper()
	pairs := b.told()
	want := b.p.unify(x, y)
	if got := b.s.Unify(x, y); got != want {
		t.Fatalf("Unify(%s, %s): %v, want %v; %s", brief(x), brief(y), got, want, pairs)
	}
	return want
}

// step: one call by chance, of both.
func (b both) step(t *testing.T, r *rand.Rand, made func(*rand.Rand, int, int) api.Type) both {
	t.Helper()
	switch r.Intn(8) {
	case 0, 1:
		if got, want := b.s.Meta(), meta(b.p.count); tell(got) != tell(want) {
			t.Fatalf("Meta: %s, want %s", brief(got), brief(want))
		}
		b.p.count++
		return b
	case 2:
		c := both{b.s.Clone(), b.p.clone()}
		ahead := all(b.s)
		for range 4 {
			c.unify(t, made(r, c.p.count, 3), made(r, c.p.count, 3))
		}
		c.agree(t, made(r, c.p.count, 3))
		if all(b.s) != ahead {
			t.Fatalf("what a clone learned is known: %s, was %s", all(b.s), ahead)
		}
		if r.Intn(2) == 0 {
			return c
		}
		return b
	}
	b.unify(t, made(r, b.p.count, 4), made(r, b.p.count, 4))
	return b
}

// TestP1102ByChance: any calls answer what the chapter's words say, whatever types come.
func TestP1102ByChance(t *testing.T) {
	for seed := range int64(15000) {
		r := rand.New(rand.NewSource(seed))
		made := plainType
		if seed%2 == 1 {
			made = wildType
		}
		b := both{unify.New(), &plainStore{}}
		for range 4 + r.Intn(12) {
			b = b.step(t, r, made)
			b.agree(t, made(r, b.p.count, 4))
		}
	}
}

// TestP1102GreatByChance: the same, near the greatest size: metas that are the same as many others, or pairs of others.
func TestP1102GreatByChance(t *testing.T) {
	refused, taken := 0, 0
	for seed := range int64(30) {
		r := rand.New(rand.NewSource(seed))
		b := both{withMetas(12), &plainStore{count: 12}}
		for range 24 {
			y := chosen(r, []api.Type{
				pair(meta(r.Intn(12)), meta(r.Intn(12))), meta(r.Intn(12)), broad(2+r.Intn(400), meta(r.Intn(12))),
				deep(2+r.Intn(300), meta(r.Intn(12))), node(api.TFn, 0, meta(r.Intn(12)), meta(r.Intn(12)), meta(r.Intn(12))),
			})
			if b.unify(t, meta(r.Intn(12)), y) == api.OK {
				taken++
			} else {
				refused++
			}
		}
		b.agree(t, broad(2+r.Intn(20), meta(r.Intn(12))))
	}
	if refused < 100 || taken < 100 {
		t.Errorf("%d taken and %d refused: the test does not try much", taken, refused)
	}
}
