package env_test

import (
	"math"
	"testing"

	"wafer/api"
	"wafer/env"
)

// wantSize: how many nodes a structure has, at each most that there is to try.
func wantSize(t *testing.T, s api.Str, want int) {
	t.Helper()
	for _, most := range mosts(want) {
		if got, limited := env.Size(s, most), limit(want, most); got != limited {
			t.Fatalf("Size(%s, %d): %d, want %d", brief(tell(s)), most, got, limited)
		}
	}
}

func wantSizeAbs(t *testing.T, a api.Abs, want int) {
	t.Helper()
	for _, most := range mosts(want) {
		if got, limited := env.SizeAbs(a, most), limit(want, most); got != limited {
			t.Fatalf("SizeAbs(%s, %d): %d, want %d", brief(tell(a)), most, got, limited)
		}
	}
}

// mosts: limits for something of a size: all that it goes past, and those at the ends of what may come.
func mosts(size int) []int {
	l := append(edges(), -3, size-1, size, size+1, api.MaxStr)
	for most := range min(size, 40) {
		l = append(l, most)
	}
	return l
}

func limit(size, most int) int {
	switch {
	case most < 0:
		return 0
	case size > most:
		return most + 1
	}
	return size
}

// TestP1303Members: each kind of member by itself.
func TestP1303Members(t *testing.T) {
	wantSize(t, str(), 1)
	wantSize(t, str(typ("t", integer())), 3)
	wantSize(t, str(typ("t", fn(stamp(1), pair(unit(), boolean())))), 7)
	wantSize(t, str(typ("t", stamp(1), ctor("A"))), 4)
	wantSize(t, str(typ("t", stamp(1), ctor("A"), ctor("B"), ctor("C"))), 6)
	wantSize(t, str(typ("t", stamp(1), ctor("A", integer()))), 5)
	wantSize(t, str(typ("t", stamp(1), ctor("A", fn(integer(), unit())), ctor("B"))), 8)
	wantSize(t, str(typ("t", stamp(1), ctor("A", integer(), fn(unit(), unit())))), 8)
	wantSize(t, str(val("x", integer())), 3)
	wantSize(t, str(poly("x", 5, fn(gen(0), gen(1)))), 5)
	wantSize(t, str(sub("M")), 3)
	wantSize(t, str(sub("M", sub("N", val("x", integer())))), 7)
	wantSize(t, str(functor("F", nil, str(), abs(nil))), 4)
	wantSize(t, str(functor("F", ints(1, 2), str(), abs(nil))), 6)
	wantSize(t, str(functor("F", nil, str(), abs(ints(1, 2, 3)))), 7)
	wantSize(t, str(functor("F", nil, str(val("x", unit())), abs(nil))), 6)
	wantSize(t, str(functor("F", nil, str(), abs(nil, val("x", fn(unit(), unit()))))), 8)
	wantSize(t, str(functor("F", ints(1), str(typ("t", stamp(1))), abs(ints(2), typ("t", stamp(2)), sub("M")))), 12)
	wantSize(t, str(sig("S", nil)), 3)
	wantSize(t, str(sig("S", ints(1, 1, 1))), 6)
	wantSize(t, str(sig("S", ints(1), typ("t", stamp(1)))), 6)
	// All of them, and several of one name.
	wantSize(t, str(typ("t", integer()), typ("t", integer()), val("x", unit()), val("y", unit()), sub("M"), functor("F", nil, str(), abs(nil)), sig("S", nil)), 1+2+2+2+2+2+3+2)
}

// TestP1303Abs: a bound stamp is a node, whether it stands somewhere or not.
func TestP1303Abs(t *testing.T) {
	wantSizeAbs(t, abs(nil), 1)
	wantSizeAbs(t, abs(ints(4)), 2)
	wantSizeAbs(t, abs(ints(7, 9), typ("t", stamp(9)), val("x", fn(stamp(9), integer()))), 9)
	wantSizeAbs(t, abs(ints(1, 1, 1), sig("S", ints(2, 2), typ("t", stamp(1)))), 3+1+1+2+1+2)
	wantSizeAbs(t, abs(make([]int, 1000)), 1001)
	// What is asked of an Abs that binds nothing is what is asked of its structure.
	s := inner(4, sub("M", val("z", unit())))
	wantSizeAbs(t, api.Abs{S: s}, plainSize(s))
	wantSize(t, s, plainSize(s))
}

// TestP1303BigTypes: types of more than MaxType nodes are counted whole, and data that is not right likewise.
func TestP1303BigTypes(t *testing.T) {
	for _, kids := range []int{api.MaxType - 1, api.MaxType, api.MaxType + 1, 5 * api.MaxType} {
		big := node(api.TInt, 4, make([]api.Type, kids)...)
		wantSize(t, str(typ("t", big)), 3+kids)
		wantSize(t, str(val("x", big), val("y", big)), 1+2*(2+kids))
		wantSize(t, str(typ("t", unit(), ctor("A", big))), 5+kids)
	}
	wantSize(t, str(typ("", api.Type{}, api.Ctor{}), val("", node(api.TStamp, -1, stamp(1)))), 4+3)
}

// TestP1303EarlyStop: what is far too great is not gone through.
func TestP1303EarlyStop(t *testing.T) {
	huge := unit()
	for range 27 {
		huge = pair(huge, huge)
	}
	s := str(val("x", huge))
	for range 200000 {
		if got := env.Size(s, 10); got != 11 {
			t.Fatalf("Size: %d", got)
		}
	}
	// Nor are members behind that by which it is too great: structures in structures, functors, signatures.
	wide := str(val("x", integer()))
	for range 20 {
		a := api.Abs{S: wide}
		wide = str(sub("M"), functor("F", nil, wide, a), sig("S", nil), api.SubMember{Name: "N", S: wide})
		wide.Sigs[0].A = a
	}
	for range 50000 {
		if got := env.Size(wide, 30); got != 31 {
			t.Fatalf("Size: %d", got)
		}
		if got := env.SizeAbs(api.Abs{Stamps: ints(1), S: wide}, 0); got != 1 {
			t.Fatalf("SizeAbs: %d", got)
		}
	}
}

// TestP1303Chance: structures by chance, right and wild, against the chapter's words.
func TestP1303Chance(t *testing.T) {
	for seed := range int64(1500) {
		m := newMaker(seed)
		a := m.abs(1 + m.Intn(4))
		wantSize(t, a.S, plainSize(a.S))
		wantSizeAbs(t, a, plainSizeAbs(a))
	}
	if env.Size(str(), math.MaxInt) != 1 || env.SizeAbs(abs(ints(1)), math.MaxInt) != 2 {
		t.Errorf("at the greatest limit")
	}
}
