package types_test

import (
	"fmt"
	"math"
	"math/rand"
	"slices"
	"testing"

	"wafer/api"
	"wafer/types"
)

// putIn: a naive replacing, whatever comes of it.
func putIn(x api.Type, kind int, from []int, to []api.Type) api.Type {
	for i, n := range from {
		if x.Kind == kind && x.N == n {
			return to[i]
		}
	}
	y := api.Type{Kind: x.Kind, N: x.N}
	for _, kid := range x.Kids {
		y.Kids = append(y.Kids, putIn(kid, kind, from, to))
	}
	return y
}

// foreseen: what Replace must answer of types that a naive replacing can go through.
func foreseen(x api.Type, kind int, from []int, to []api.Type) (api.Type, api.Errno) {
	if len(from) != len(to) {
		return api.Type{}, api.ErrArg
	}
	y := putIn(x, kind, from, to)
	if countUp(y) > api.MaxType {
		return api.Type{}, api.ErrBig
	}
	return y, api.OK
}

func tellCall(x api.Type, kind int, from []int, to []api.Type) string {
	return fmt.Sprintf("Replace(%s, %d, %v, %s)", brief(tell(x)), kind, from, brief(tellAll(to)))
}

// check: Replace answers what is foreseen, in new memory, and leaves what is handed in as it was.
func check(t *testing.T, x api.Type, kind int, from []int, to []api.Type) (api.Type, api.Errno) {
	t.Helper()
	want, wantError := foreseen(x, kind, from, to)
	numbers := append(make([]int, 0, len(from)+2), from...)
	x, to = roomy(x), roomyAll(to)
	ahead := tellRoom(x) + tellRoom(api.Type{Kids: to})
	got, e := types.Replace(x, kind, numbers, to)
	if tell(got) != tell(want) || e != wantError {
		t.Fatalf("%s: %s, %v, want %s, %v", tellCall(x, kind, from, to), brief(tell(got)), e, brief(tell(want)), wantError)
	}
	scribble(got)
	if ahead != tellRoom(x)+tellRoom(api.Type{Kids: to}) {
		t.Fatalf("%s: what is handed in has changed", tellCall(x, kind, from, to))
	}
	if !slices.Equal(numbers[:cap(numbers)], append(slices.Clone(from), make([]int, cap(numbers)-len(from))...)) {
		t.Fatalf("%s: from has changed", tellCall(x, kind, from, to))
	}
	again, e := types.Replace(x, kind, numbers, to)
	if tell(again) != tell(want) || e != wantError {
		t.Fatalf("%s: once more: %s, %v", tellCall(x, kind, from, to), brief(tell(again)), e)
	}
	return again, e
}

// wantReplace: just that type.
func wantReplace(t *testing.T, x api.Type, kind int, from []int, to []api.Type, want api.Type) {
	t.Helper()
	if got, e := check(t, x, kind, from, to); tell(got) != tell(want) || e != api.OK {
		t.Errorf("%s: %s, %v, want %s", tellCall(x, kind, from, to), brief(tell(got)), e, brief(tell(want)))
	}
}

// wantError: that error, and the zero type.
func wantError(t *testing.T, x api.Type, kind int, from []int, to []api.Type, want api.Errno) {
	t.Helper()
	got, e := types.Replace(x, kind, from, to)
	if e != want || got.Kind != 0 || got.N != 0 || len(got.Kids) != 0 {
		t.Errorf("Replace: kind %d, %d nodes, error %v, want %v", got.Kind, len(got.Kids), e, want)
	}
}

func list(l ...api.Type) []api.Type { return l }

func TestF83Examples(t *testing.T) {
	wantReplace(t, fn(stamp(1), stamp(2)), api.TStamp, []int{1, 2}, list(stamp(2), integer()), fn(stamp(2), integer()))
	for side := range 3 {
		wantError(t, chain(999, side, stamp(1)), api.TStamp, []int{1}, list(fn(integer(), integer())), api.ErrBig)
	}
}

func TestF83Replace(t *testing.T) {
	i, b := integer(), boolean()
	x := fn(stamp(1), pair(stamp(2), stamp(1)))
	wantReplace(t, x, api.TStamp, nil, nil, x)
	wantReplace(t, x, api.TStamp, []int{}, list(), x)
	wantReplace(t, x, api.TStamp, []int{3}, list(i), x)
	wantReplace(t, x, api.TStamp, []int{1}, list(i), fn(i, pair(stamp(2), i)))
	wantReplace(t, x, api.TStamp, []int{2}, list(fn(i, b)), fn(stamp(1), pair(fn(i, b), stamp(1))))
	wantReplace(t, x, api.TStamp, []int{2, 1}, list(i, b), fn(b, pair(i, b)))
	wantReplace(t, stamp(1), api.TStamp, []int{1}, list(x), x)

	// The first such i.
	wantReplace(t, x, api.TStamp, []int{1, 1}, list(i, b), fn(i, pair(stamp(2), i)))
	wantReplace(t, x, api.TStamp, []int{2, 1, 2, 1}, list(i, stamp(1), b, unit()), fn(stamp(1), pair(i, stamp(1))))

	// In what is put in nothing is replaced, not even itself.
	wantReplace(t, x, api.TStamp, []int{1}, list(fn(stamp(1), stamp(2))), fn(fn(stamp(1), stamp(2)), pair(stamp(2), fn(stamp(1), stamp(2)))))
	wantReplace(t, x, api.TStamp, []int{1, 2}, list(stamp(2), stamp(1)), fn(stamp(2), pair(stamp(1), stamp(2))))
	wantReplace(t, x, api.TStamp, []int{1, 2}, list(pair(stamp(2), stamp(1)), x), fn(pair(stamp(2), stamp(1)), pair(x, pair(stamp(2), stamp(1)))))
}

// TestF83OtherKinds: nodes of another kind stay, whatever their number is.
func TestF83OtherKinds(t *testing.T) {
	x := fn(pair(stamp(1), meta(1)), pair(gen(1), gen(2)))
	wantReplace(t, x, api.TStamp, []int{1}, list(unit()), fn(pair(unit(), meta(1)), pair(gen(1), gen(2))))
	wantReplace(t, x, api.TMeta, []int{1}, list(unit()), fn(pair(stamp(1), unit()), pair(gen(1), gen(2))))
	wantReplace(t, x, api.TGen, []int{1}, list(unit()), fn(pair(stamp(1), meta(1)), pair(unit(), gen(2))))
	wantReplace(t, x, api.TGen, []int{2, 1}, list(stamp(1), meta(1)), fn(pair(stamp(1), meta(1)), pair(meta(1), stamp(1))))
	for _, kind := range noKinds() {
		wantReplace(t, x, kind, []int{0, 1, 2}, list(unit(), unit(), unit()), x)
		wantReplace(t, fn(node(kind, 1), node(kind, 2, stamp(1))), kind, []int{2}, list(unit()), fn(node(kind, 1), unit()))
	}
}

// TestF83KindsWithoutN: a kind that has no N is replaced where its nodes' 0 is looked for, the outermost ones with all that is in them.
func TestF83KindsWithoutN(t *testing.T) {
	x := fn(integer(), pair(integer(), fn(boolean(), unit())))
	wantReplace(t, x, api.TInt, []int{0}, list(stamp(1)), fn(stamp(1), pair(stamp(1), fn(boolean(), unit()))))
	wantReplace(t, x, api.TInt, []int{1}, list(stamp(1)), x)
	wantReplace(t, x, api.TInt, []int{1, 0}, list(stamp(1), stamp(2)), fn(stamp(2), pair(stamp(2), fn(boolean(), unit()))))
	wantReplace(t, x, api.TBool, []int{0}, list(fn(boolean(), boolean())), fn(integer(), pair(integer(), fn(fn(boolean(), boolean()), unit()))))
	wantReplace(t, x, api.TUnit, []int{0}, list(integer()), fn(integer(), pair(integer(), fn(boolean(), integer()))))
	wantReplace(t, x, api.TFn, []int{0}, list(unit()), unit())
	wantReplace(t, x, api.TPair, []int{0}, list(x), fn(integer(), x))
	wantReplace(t, pair(x, fn(x, x)), api.TFn, []int{0}, list(fn(unit(), unit())), pair(fn(unit(), unit()), fn(unit(), unit())))
	wantReplace(t, node(api.TInt, 3, node(api.TInt, 0), node(api.TInt, 3)), api.TInt, []int{0}, list(unit()), node(api.TInt, 3, unit(), node(api.TInt, 3)))
}

// TestF83AnyData: nodes that are not right are replaced, and gone into, as others are.
func TestF83AnyData(t *testing.T) {
	x := node(api.TInt, 4, stamp(-1), node(api.TStamp, 2, stamp(-1)), node(0, 0, node(api.TStamp, math.MinInt)))
	wantReplace(t, x, api.TStamp, []int{-1}, list(unit()), node(api.TInt, 4, unit(), node(api.TStamp, 2, unit()), node(0, 0, stamp(math.MinInt))))
	wantReplace(t, x, api.TStamp, []int{2, -1}, list(unit(), stamp(2)), node(api.TInt, 4, stamp(2), unit(), node(0, 0, stamp(math.MinInt))))
	wantReplace(t, x, api.TStamp, []int{math.MinInt}, list(node(-5, 6, unit(), unit(), unit())), node(api.TInt, 4, stamp(-1), node(api.TStamp, 2, stamp(-1)), node(0, 0, node(-5, 6, unit(), unit(), unit()))))
	for _, y := range wrongs() {
		wantReplace(t, fn(y, stamp(9)), api.TStamp, []int{9}, list(y), fn(y, y))
	}
	wantReplace(t, api.Type{}, 0, []int{0}, list(stamp(1)), stamp(1))
}

func TestF83UnlikeLengths(t *testing.T) {
	x := fn(stamp(1), stamp(2))
	u := unit()
	for from := range 4 {
		for to := range 4 {
			want := api.OK
			if from != to {
				want = api.ErrArg
			}
			numbers, by := []int{7, 8, 9}[:from], list(u, u, u)[:to]
			if _, e := check(t, x, api.TStamp, numbers, by); e != want {
				t.Errorf("%d numbers, %d types: %v, want %v", from, to, e, want)
			}
			if _, e := types.ReplaceScheme(types.Mono(x), numbers, by); e != want {
				t.Errorf("ReplaceScheme: %d numbers, %d types: %v, want %v", from, to, e, want)
			}
		}
	}
	// With ErrBig, which comes behind it.
	big := chain(1001, 0, stamp(1))
	wantError(t, big, api.TStamp, []int{1}, nil, api.ErrArg)
	wantError(t, big, api.TStamp, nil, list(u), api.ErrArg)
	wantError(t, stamp(1), api.TStamp, []int{1, 2}, list(big), api.ErrArg)
	wantError(t, big, api.TStamp, nil, nil, api.ErrBig)
}

// TestF83Sizes: what comes has MaxType nodes, or one more, whatever it is made of.
func TestF83Sizes(t *testing.T) {
	for nodes := 2; nodes <= 1003; nodes += 7 {
		for put := api.MaxType - nodes - 1; put <= api.MaxType-nodes+3; put++ {
			if put < 1 {
				continue
			}
			for side := range 3 {
				x, by := chain(nodes, side, stamp(1)), chain(put, 1-side%2, stamp(1))
				want := api.OK
				if nodes-1+put > api.MaxType {
					want = api.ErrBig
				}
				if y, e := types.Replace(x, api.TStamp, []int{1}, list(by)); e != want || e == api.OK && countUp(y) != nodes-1+put {
					t.Errorf("%d nodes, one of them replaced by %d: %v, want %v", nodes, put, e, want)
				}
			}
		}
	}
	for _, nodes := range []int{998, 999, 1000, 1001, 1002, 1003} {
		for side := range 3 {
			check(t, chain(nodes, side, stamp(1)), api.TStamp, nil, nil)
			check(t, chain(nodes, side, stamp(1)), api.TStamp, []int{2}, list(broad(5000, unit())))
			check(t, chain(nodes, side, stamp(1)), api.TStamp, []int{1}, list(unit()))
			check(t, stamp(1), api.TStamp, []int{1}, list(chain(nodes, side, stamp(1))))
		}
		check(t, broad(nodes, stamp(1)), api.TStamp, []int{1}, list(unit()))
		check(t, stamp(1), api.TStamp, []int{1}, list(broad(nodes, stamp(1))))
	}
}

// TestF83ManyPlaces: one type that is put in at many places.
func TestF83ManyPlaces(t *testing.T) {
	three := fn(stamp(1), stamp(1))
	for places := 330; places <= 336; places++ {
		check(t, broad(places+1, stamp(1)), api.TStamp, []int{1}, list(three))
	}
	check(t, broad(334, stamp(1)), api.TStamp, []int{1}, list(three))                    // 1 + 333 * 3
	wantError(t, broad(335, stamp(1)), api.TStamp, []int{1}, list(three), api.ErrBig)    // 1 + 334 * 3
	check(t, doubled(9, stamp(1)), api.TStamp, []int{1}, list(node(0, 0, stamp(1))))     // 255 + 256 * 2
	check(t, doubled(9, stamp(1)), api.TStamp, []int{1}, list(three))                    // 255 + 256 * 3
	wantError(t, doubled(9, stamp(1)), api.TStamp, []int{1}, list(broad(3, three)), 3)   // 255 + 256 * 7
	wantError(t, doubled(30, stamp(1)), api.TStamp, []int{1}, list(unit()), api.ErrBig)  // far more
	wantError(t, stamp(1), api.TStamp, []int{1}, list(doubled(30, unit())), api.ErrBig)  // what is put in is far more
	wantError(t, broad(1<<20, stamp(1)), api.TStamp, []int{1}, list(unit()), api.ErrBig) // in one list
}

// TestF83Smaller: what is replaced is not gone through, so a type that is too great may become one that fits.
func TestF83Smaller(t *testing.T) {
	for _, x := range []api.Type{doubled(30, stamp(1)), broad(5000, stamp(1)), chain(65537, 0, stamp(1)), chain(65538, 1, stamp(1))} {
		kind := x.Kind
		if y, e := types.Replace(x, kind, []int{0}, list(unit())); tell(y) != tell(unit()) || e != api.OK {
			t.Errorf("the whole replaced: %v", e)
		}
		if y, e := types.Replace(fn(pair(x, stamp(5)), unit()), api.TPair, []int{0}, list(stamp(4))); tell(y) != tell(fn(stamp(4), unit())) || e != api.OK {
			t.Errorf("a part replaced: %v", e)
		}
		// What is not put in does not count.
		if y, e := types.Replace(stamp(1), api.TStamp, []int{2, 1, 1}, list(x, unit(), x)); tell(y) != tell(unit()) || e != api.OK {
			t.Errorf("what is not put in: %v", e)
		}
	}
}

func TestF83ByChance(t *testing.T) {
	r := rand.New(rand.NewSource(83))
	seen := map[api.Errno]int{}
	for range 6000 {
		x := wild(r, 1+r.Intn(7))
		if r.Intn(8) == 0 {
			x = broad(2+r.Intn(300), plain(r, 4))
		}
		kind := 1 + r.Intn(8)
		if r.Intn(3) > 0 {
			kind = api.TStamp
		}
		var from []int
		var to []api.Type
		for range r.Intn(5) {
			from = append(from, r.Intn(5)-1)
			to = append(to, wild(r, 1+r.Intn(6)))
		}
		if r.Intn(10) == 0 {
			from = append(from, 3)
		}
		_, e := check(t, x, kind, from, to)
		seen[e]++
	}
	for _, e := range []api.Errno{api.OK, api.ErrArg, api.ErrBig} {
		if seen[e] < 30 {
			t.Errorf("answers by chance are too much of one sort: %v", seen)
		}
	}
}

func TestF83ReplaceScheme(t *testing.T) {
	x := fn(gen(0), pair(stamp(1), meta(1)))
	for _, gens := range []int{math.MinInt, -1, 0, 1, 2, math.MaxInt} {
		s, e := types.ReplaceScheme(api.Scheme{Gens: gens, T: x}, []int{1}, list(fn(integer(), meta(1))))
		if s.Gens != gens || tell(s.T) != tell(fn(gen(0), pair(fn(integer(), meta(1)), meta(1)))) || e != api.OK {
			t.Errorf("Gens %d: Gens %d, %s, %v", gens, s.Gens, tell(s.T), e)
		}
	}
	// Stamps alone are replaced.
	s, e := types.ReplaceScheme(api.Scheme{Gens: 1, T: x}, []int{0}, list(unit()))
	if s.Gens != 1 || tell(s.T) != tell(x) || e != api.OK {
		t.Errorf("nothing replaced: Gens %d, %s, %v", s.Gens, tell(s.T), e)
	}
}

// TestF83ReplaceSchemeErrors: a TGen in what might be put in, whether it is or not; Replace's errors come ahead of it.
func TestF83ReplaceSchemeErrors(t *testing.T) {
	x := api.Scheme{Gens: 1, T: fn(gen(0), stamp(1))}
	big := api.Scheme{Gens: 1, T: chain(1001, 0, stamp(1))}
	far := chain(100001, 1, gen(5))
	for _, c := range []struct {
		s    api.Scheme
		from []int
		to   []api.Type
		want api.Errno
	}{
		{x, []int{1}, list(gen(0)), api.ErrArg},
		{x, []int{2}, list(gen(0)), api.ErrArg},
		{x, []int{2}, list(gen(-1)), api.ErrArg},
		{x, []int{1, 1}, list(unit(), gen(0)), api.ErrArg},
		{x, []int{1, 2}, list(unit(), fn(unit(), pair(gen(9), unit()))), api.ErrArg},
		{x, []int{1, 2, 3}, list(unit(), node(api.TInt, 0, gen(9)), unit()), api.ErrArg},
		{x, []int{2}, list(node(api.TGen, 1, unit())), api.ErrArg},
		{x, []int{2}, list(far), api.ErrArg},
		{x, []int{2}, list(doubled(18, gen(1))), api.ErrArg},
		{x, []int{2}, list(doubled(18, stamp(1))), api.OK},
		{x, []int{1}, list(meta(0)), api.OK},
		{x, nil, list(gen(0)), api.ErrArg},
		{x, []int{1}, list(chain(998, 0, unit())), api.OK},
		{x, []int{1}, list(chain(999, 0, unit())), api.ErrBig},
		{x, []int{1}, list(chain(999, 0, gen(0))), api.ErrBig},
		{x, []int{1}, list(far), api.ErrBig},
		{big, nil, nil, api.ErrBig},
		{big, []int{2}, list(gen(0)), api.ErrBig},
		{big, []int{1}, nil, api.ErrArg},
		{big, []int{1}, list(gen(0), gen(0)), api.ErrArg},
		{api.Scheme{}, []int{1}, list(gen(0)), api.ErrArg},
		{api.Scheme{}, nil, nil, api.OK},
	} {
		s, e := types.ReplaceScheme(c.s, c.from, c.to)
		if e != c.want || e != api.OK && (s.Gens != 0 || s.T.Kind != 0 || s.T.N != 0 || len(s.T.Kids) != 0) {
			t.Errorf("ReplaceScheme(%s, %v, %s): Gens %d, %s, %v, want %v", brief(tell(c.s.T)), c.from, brief(tellAll(c.to)), s.Gens, brief(tell(s.T)), e, c.want)
		}
	}
}

// TestF83ReplaceSchemeByChance: Replace's answer of its T, unless a type of to has a TGen.
func TestF83ReplaceSchemeByChance(t *testing.T) {
	r := rand.New(rand.NewSource(833))
	for range 3000 {
		s := api.Scheme{Gens: r.Intn(6) - 1, T: roomy(wild(r, 5))}
		from := []int{r.Intn(4), r.Intn(4)}
		to := roomyAll(list(wild(r, 3), plain(r, 2)))
		ahead := tellRoom(s.T) + tellRoom(api.Type{Kids: to})
		want, wantError := foreseen(s.T, api.TStamp, from, to)
		gens := s.Gens
		if wantError == api.OK && len(firsts(slices.Concat(line(to[0]), line(to[1])), api.TGen)) > 0 {
			want, wantError = api.Type{}, api.ErrArg
		}
		if wantError != api.OK {
			gens = 0
		}
		got, e := types.ReplaceScheme(s, from, to)
		if got.Gens != gens || tell(got.T) != tell(want) || e != wantError {
			t.Fatalf("ReplaceScheme(%s, %v, %s): Gens %d, %s, %v, want %s, %v", brief(tell(s.T)), from, brief(tellAll(to)), got.Gens, brief(tell(got.T)), e, brief(tell(want)), wantError)
		}
		scribble(got.T)
		if ahead != tellRoom(s.T)+tellRoom(api.Type{Kids: to}) {
			t.Fatalf("ReplaceScheme: what is handed in has changed")
		}
	}
}

func TestF83Mono(t *testing.T) {
	for _, x := range slices.Concat(leaves(), wrongs(), rising(), list(chain(100001, 0, gen(1)), doubled(18, stamp(1)))) {
		ahead := tell(x)
		if s := types.Mono(x); s.Gens != 0 || tell(s.T) != ahead || tell(x) != ahead {
			t.Errorf("Mono of %s: Gens %d, %s", brief(ahead), s.Gens, brief(tell(s.T)))
		}
	}
	if s := types.Mono(doubled(30, unit())); s.Gens != 0 || types.Fits(s.T) {
		t.Errorf("Mono of a type that is too great: Gens %d", s.Gens)
	}
}

// TestF83PartsOfArguments: what comes is worked with further, and the arguments, of which it may have parts, stay.
func TestF83PartsOfArguments(t *testing.T) {
	x, by := roomy(fn(stamp(1), fn(stamp(2), pair(stamp(3), unit())))), roomy(pair(stamp(4), fn(stamp(5), stamp(1))))
	aheadX, aheadBy := tellRoom(x), tellRoom(by)
	once, _ := types.Replace(x, api.TStamp, []int{1}, list(by))
	first := tell(once)
	twice, e := types.Replace(once, api.TStamp, []int{4, 5, 3, 1}, list(once, x, by, types.Mono(x).T))
	if e != api.OK || tell(once) != first || tellRoom(x) != aheadX || tellRoom(by) != aheadBy {
		t.Errorf("what is handed in has changed, %v", e)
	}
	told := tell(twice)
	third, e := types.Replace(types.Mono(twice).T, api.TStamp, []int{1, 2, 3, 4, 5}, list(unit(), unit(), unit(), unit(), unit()))
	if e != api.OK || len(types.Stamps(third)) != 0 || tell(twice) != told || tell(once) != first || tellRoom(x) != aheadX || tellRoom(by) != aheadBy {
		t.Errorf("what is handed in has changed, %v", e)
	}
}

// TestP802Nothing: replacing nothing, or by itself, is nothing.
func TestP802Nothing(t *testing.T) {
	r := rand.New(rand.NewSource(802))
	for range 700 {
		x := plain(r, 8)
		for _, kind := range []int{api.TStamp, api.TMeta, api.TGen} {
			own := sorts()[kind](x)
			itself := make([]api.Type, len(own))
			for i, n := range own {
				itself[i] = node(kind, n)
			}
			wantReplace(t, x, kind, nil, nil, x)
			wantReplace(t, x, kind, []int{9, 11}, list(unit(), x), x)
			wantReplace(t, x, kind, own, itself, x)
		}
	}
}

// sorted: the numbers of lists in order, each once.
func sorted(lists ...[]int) []int {
	l := slices.Concat(lists...)
	slices.Sort(l)
	return slices.Compact(l)
}

// TestP802Stamps: the stamps of what comes are those that were not replaced, and those of what was put in.
func TestP802Stamps(t *testing.T) {
	r := rand.New(rand.NewSource(8021))
	for range 5000 {
		x := plain(r, 6)
		from := []int{r.Intn(5), r.Intn(5), r.Intn(5)}
		to := list(plain(r, 3), plain(r, 3), plain(r, 3))
		y, e := types.Replace(x, api.TStamp, from, to)
		if e != api.OK {
			continue
		}
		var want []int
		for _, n := range types.Stamps(x) {
			if i := slices.Index(from, n); i >= 0 {
				want = append(want, types.Stamps(to[i])...)
			} else {
				want = append(want, n)
			}
		}
		if got := sorted(types.Stamps(y)); !slices.Equal(got, sorted(want)) {
			t.Fatalf("%s: stamps %v, want %v", tellCall(x, api.TStamp, from, to), got, sorted(want))
		}
		if !types.Right(y) {
			t.Fatalf("%s: %s is not right", tellCall(x, api.TStamp, from, to), brief(tell(y)))
		}
	}
}

// TestP802AtOnce: one after the other is at once, where what is put in first has nothing that is replaced then.
func TestP802AtOnce(t *testing.T) {
	r := rand.New(rand.NewSource(8022))
	tried := 0
	for range 8000 {
		x := plain(r, 5)
		first, then := []int{r.Intn(4), r.Intn(4)}, []int{r.Intn(4), r.Intn(4)}
		to, next := list(plain(r, 3), plain(r, 2)), list(plain(r, 3), plain(r, 3))
		put := slices.Concat(types.Stamps(to[0]), types.Stamps(to[1]))
		if slices.Contains(put, then[0]) || slices.Contains(put, then[1]) {
			continue
		}
		once, e := types.Replace(x, api.TStamp, first, to)
		if e != api.OK {
			continue
		}
		one, e1 := types.Replace(once, api.TStamp, then, next)
		all, e2 := types.Replace(x, api.TStamp, slices.Concat(first, then), slices.Concat(to, next))
		if e1 != e2 || tell(one) != tell(all) {
			t.Fatalf("%s: one after the other %s, %v, at once %s, %v", tellCall(x, api.TStamp, first, to), brief(tell(one)), e1, brief(tell(all)), e2)
		}
		tried++
	}
	if tried < 1000 {
		t.Errorf("only %d were tried", tried)
	}
}
