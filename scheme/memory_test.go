package scheme_test

import (
	"math/rand"
	"slices"
	"testing"

	"wafer/api"
	"wafer/scheme"
)

// roomyList: types in new memory, with spare room behind each list, in which something stands.
func roomyList(l []api.Type) []api.Type { return roomy(api.Type{Kids: l}).Kids }

// roomyNumbers: numbers with spare room behind them, in which something stands.
func roomyNumbers(l []int) []int {
	out := append(slices.Clone(l), 91, 92, 93)
	return out[:len(l)]
}

// untouched: runs calls that write into all that they are handed, and sees to it that their arguments stay.
func untouched(t *testing.T, what string, args []api.Type, call func()) {
	t.Helper()
	ahead := tellRoom(args...)
	call()
	if tellRoom(args...) != ahead {
		t.Fatalf("%s: what was handed in has changed: %s, was %s", what, brief(tellRoom(args...)), brief(ahead))
	}
}

// TestArguments: what is handed in is not changed, its spare room neither, and what is handed out is new memory.
func TestArguments(t *testing.T) {
	for seed := range int64(2500) {
		r := rand.New(rand.NewSource(seed))
		a := rightScheme(r, 4)
		b := instanceOf(r, a, 3)
		if r.Intn(3) == 0 {
			a, b = wildScheme(r, 4), wildScheme(r, 4)
		}
		a.T, b.T = roomy(a.T), roomy(b.T)
		x := roomy(wild(r, 5))
		l := make([]api.Type, min(max(a.Gens, 0), 5))
		for i := range l {
			l[i] = wild(r, 3)
		}
		l = roomyList(l)
		keep := roomyNumbers(chanceNumbers(r))
		room := slices.Clone(keep[:cap(keep)])
		untouched(t, "all calls", list(a.T, b.T, x, api.Type{Kids: l}), func() {
			scribble(scheme.Canonical(a).T)
			scribble(scheme.Generalise(x, keep).T)
			made, _, _ := scheme.Instantiate(a, 5)
			scribble(made)
			put, _ := scheme.Instance(a, l)
			scribble(put)
			told, _ := scheme.Match(a, b)
			scribble(api.Type{Kids: told})
			scheme.AtLeast(a, b)
			scheme.Alike(a, b)
		})
		if !slices.Equal(keep[:cap(keep)], room) {
			t.Fatalf("%d: keep has become %v, was %v", seed, keep[:cap(keep)], room)
		}
	}
}

// TestListsOfAnAnswer: no two lists of one answer share memory, though they did in what was handed in.
func TestListsOfAnAnswer(t *testing.T) {
	part := fn(meta(1), stamp(2))
	x := pair(part, pair(part, part))
	half := pair(part, part)
	for what, y := range map[string]api.Type{
		"Canonical":  scheme.Canonical(of(0, x)).T,
		"Generalise": scheme.Generalise(x, []int{1}).T,
		"Instantiate": func() api.Type {
			y, _, _ := scheme.Instantiate(of(0, x), 0)
			return y
		}(),
		"Instance": func() api.Type {
			y, _ := scheme.Instance(of(1, pair(gen(0), pair(gen(0), gen(0)))), list(part))
			return y
		}(),
		"Match": func() api.Type {
			l, _ := scheme.Match(of(2, pair(gen(0), gen(1))), of(0, x))
			return api.Type{Kind: api.TPair, Kids: l}
		}(),
	} {
		same(t, what, tell(y), tell(x))
		scribble(y.Kids[0])
		same(t, what+", one part written into", tell(y.Kids[1]), tell(half))
		scribble(y.Kids[1].Kids[0])
		same(t, what+", two parts written into", tell(y.Kids[1].Kids[1]), tell(part))
	}
	same(t, "what was handed in", tell(x), tell(pair(fn(meta(1), stamp(2)), pair(fn(meta(1), stamp(2)), fn(meta(1), stamp(2))))))
}

// TestCallsByThemselves: what a call answers hangs on its arguments alone.
func TestCallsByThemselves(t *testing.T) {
	r := rand.New(rand.NewSource(5))
	for range 300 {
		a, b, x, keep := wildScheme(r, 4), wildScheme(r, 4), wild(r, 5), chanceNumbers(r)
		ask := func() string {
			made, _, _ := scheme.Instantiate(a, 2)
			l, _ := scheme.Match(a, b)
			return tellScheme(scheme.Canonical(a)) + tellScheme(scheme.Generalise(x, keep)) + tell(made) + tellAll(l)
		}
		first := ask()
		for range 4 {
			same(t, "asked again", ask(), first)
		}
	}
}
