package match_test

import (
	"fmt"
	"slices"
	"testing"

	"wafer/api"
	"wafer/match"
)

// TestByChance: what the chapter's words alone say of structures by chance.
func TestByChance(t *testing.T) {
	t.Parallel()
	count := map[string]int{}
	for seed := range int64(20000) {
		m := newMaker(seed)
		has, a, _ := m.two()
		what := fmt.Sprintf("%d: %s; %s", seed, show(has), showAbs(a))
		l, err := match.Types(has, a.S, a.Stamps)
		plain, want := plainTypes(has, a.S, a.Stamps)
		if err != want || tell(l) != tell(plain) {
			t.Fatalf("Types %s: %s %s, want %s %s", what, texts(l), code(err), texts(plain), code(want))
		}
		count[fmt.Sprint("Types ", code(err))]++
		l, err = match.Match(has, a)
		plain, want = plainMatch(has, a)
		if err != want || tell(l) != tell(plain) {
			t.Fatalf("Match %s: %s %s, want %s %s", what, texts(l), code(err), texts(plain), code(want))
		}
		count[fmt.Sprint("Match ", code(err))]++
		if len(l) > 1 {
			count["several types"]++
		}
		want = api.ErrMatch
		if plainHas(has, a.S) {
			want = api.OK
		}
		if err := match.Has(has, a.S); err != want {
			t.Fatalf("Has %s: %s, want %s", what, code(err), code(want))
		}
		count[fmt.Sprint("Has ", code(want))]++
	}
	for _, what := range []string{"Types OK", "Types ErrMatch", "Match OK", "Match ErrMatch", "several types", "Has OK", "Has ErrMatch"} {
		if count[what] < 1000 {
			t.Errorf("%v: the test does not try much", count)
		}
	}
}

// TestP1801: with the types that Match tells, put in, the structure has what is asked; no others do.
func TestP1801(t *testing.T) {
	t.Parallel()
	fits, others := 0, 0
	for seed := range int64(12000) {
		m := newMaker(seed)
		has, a, given := m.two()
		what := fmt.Sprintf("%d: %s; %s", seed, show(has), showAbs(a))
		l, err := match.Match(has, a)
		if err != api.OK {
			// Then none of those that are there, or were to be there, do.
			put, code := match.Put(a.S, a.Stamps, given)
			if _, found := match.Types(has, a.S, a.Stamps); found == api.OK && code == api.OK && match.Has(has, put) == api.OK {
				t.Fatalf("%s: the structure has what is asked with %s, but does not match", what, texts(given))
			}
			continue
		}
		put, err := match.Put(a.S, a.Stamps, l)
		if err != api.OK || match.Has(has, put) != api.OK {
			t.Fatalf("%s: with %s the structure lacks something", what, texts(l))
		}
		fits++
		for i, n := range a.Stamps {
			other := slices.Clone(l)
			other[i] = m.typeOf(3, 0)
			if slices.Index(a.Stamps, n) < i || tell(other[i]) == tell(l[i]) {
				continue
			}
			put, err := match.Put(a.S, a.Stamps, other)
			if err == api.OK && match.Has(has, put) == api.OK {
				t.Fatalf("%s: %s will do, and so will %s", what, texts(l), texts(other))
			}
			others++
		}
	}
	if fits < 3000 || others < 2000 {
		t.Errorf("%d, %d others: the test does not try much", fits, others)
	}
}

// rightSchemes: are all schemes of a structure right? What is not is at least as general as nothing, not even as itself.
func rightSchemes(s api.Str) bool {
	return !slices.ContainsFunc(s.Vals, func(m api.ValMember) bool { return !plainAtLeast(m.S, m.S) }) &&
		!slices.ContainsFunc(s.Subs, func(m api.SubMember) bool { return !rightSchemes(m.S) })
}

// TestP1802Itself: each structure without functors and signatures has what itself asks, also with several of one name.
func TestP1802Itself(t *testing.T) {
	t.Parallel()
	right, nested := 0, 0
	for seed := range int64(8000) {
		m := newMaker(seed)
		s := m.str(4, false)
		if !rightSchemes(s) {
			continue
		}
		right++
		if err := match.Has(s, s); err != api.OK {
			t.Fatalf("%d: %s: it lacks what itself asks", seed, show(s))
		}
		if len(s.Subs) > 0 {
			nested++
		}
		// With a functor or a signature somewhere no structure has what it asks.
		at := m.somewhere(&s)
		if m.Intn(2) == 0 {
			at.Funs = append(at.Funs, functor("F", nil, str(), abs(nil)))
		} else {
			at.Sigs = append(at.Sigs, sig("S", nil))
		}
		want := api.ErrMatch
		if plainHas(s, s) {
			// It stands where another structure of its name counts.
			want = api.OK
		}
		if err := match.Has(s, s); err != want {
			t.Fatalf("%d: %s: %s", seed, show(s), code(err))
		}
	}
	if right < 4000 || nested < 1500 {
		t.Errorf("%d, %d nested: the test does not try much", right, nested)
	}
}

// TestP1802Third: Has goes on through a third structure, and what has more has what the lesser one has.
func TestP1802Third(t *testing.T) {
	t.Parallel()
	through, more, lesser := 0, 0, 0
	for seed := range int64(12000) {
		m := newMaker(seed)
		c := m.str(3, false)
		b := m.more(c)
		if m.Intn(5) == 0 {
			m.spoil(&c)
		}
		a := m.more(b)
		if m.Intn(5) == 0 {
			m.spoil(&a)
		}
		if match.Has(b, c) == api.OK {
			more++
		}
		if match.Has(a, b) != api.OK || match.Has(b, c) != api.OK {
			continue
		}
		through++
		if err := match.Has(a, c); err != api.OK {
			t.Fatalf("%d: %s has %s, which has %s, but not so the first one", seed, show(a), show(b), show(c))
		}
		if match.Has(c, a) != api.OK {
			lesser++
		}
	}
	if through < 3000 || more < 4000 || lesser < 1500 {
		t.Errorf("%d through a third one, %d through a second one, %d that have less: the test does not try much", through, more, lesser)
	}
}

// TestP1803: Has goes on under Put of closed types into both, where that fits.
func TestP1803(t *testing.T) {
	t.Parallel()
	held, changed, big := 0, 0, 0
	for seed := range int64(12000) {
		m := newMaker(seed)
		asks := m.str(3, false)
		has := m.more(asks)
		if match.Has(has, asks) != api.OK {
			continue
		}
		stamps := m.stamps()
		m.wild = false
		l := m.types(len(stamps), 3)
		if m.Intn(10) == 0 && len(l) > 0 {
			l[0] = wide(400+m.Intn(200), integer())
		}
		one, err := match.Put(has, stamps, l)
		two, code := match.Put(asks, stamps, l)
		if err != api.OK || code != api.OK {
			big++
			continue
		}
		held++
		if tell(two) != tell(asks) {
			changed++
		}
		if err := match.Has(one, two); err != api.OK {
			t.Fatalf("%d: %s has %s, but not with %s for %v", seed, show(has), show(asks), brief(texts(l)), stamps)
		}
	}
	if held < 5000 || changed < 2000 || big < 50 {
		t.Errorf("%d, %d changed, %d too great: the test does not try much", held, changed, big)
	}
}
