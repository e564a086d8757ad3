package target_test

import (
	"math"
	"math/rand"
	"slices"
	"testing"

	"wafer/api"
	"wafer/target"
)

func nodesOf(t api.TT) int {
	n := 1
	for _, kid := range t.Kids {
		n += nodesOf(kid)
	}
	return n
}

func nodesIn(m api.TM) int {
	n := 1
	for _, t := range m.Types {
		n += nodesOf(t)
	}
	for _, kid := range m.Kids {
		n += nodesIn(kid)
	}
	return n
}

// upTo: what is told of so many nodes, by the chapter's words.
func upTo(nodes, most int) int {
	switch {
	case most < 0:
		return 0
	case nodes > most:
		return most + 1
	}
	return nodes
}

func TestP905Examples(t *testing.T) {
	a := all(1, fn(v(1), v(2)))
	m := lam("x", a, app(x("x"), fail(a)))
	for _, c := range []struct{ most, size, nodes int }{
		{math.MinInt, 0, 0}, {-2, 0, 0}, {-1, 0, 0}, {0, 1, 1}, {1, 2, 2}, {2, 3, 3}, {3, 4, 4}, {4, 4, 5}, {5, 4, 6}, {10, 4, 11}, {11, 4, 12}, {12, 4, 12}, {13, 4, 12}, {math.MaxInt, 4, 12},
	} {
		if got := target.Size(a, c.most); got != c.size {
			t.Errorf("Size, at most %d: %d, want %d", c.most, got, c.size)
		}
		if got := target.Nodes(m, c.most); got != c.nodes {
			t.Errorf("Nodes, at most %d: %d, want %d", c.most, got, c.nodes)
		}
	}
}

func TestP905ByChance(t *testing.T) {
	r := rand.New(rand.NewSource(905))
	for range 5000 {
		a := chosen(r, plainType, wildType)(r, 5)
		m := chosen(r, plainTerm, wildTerm)(r, 5)
		size, nodes := nodesOf(a), nodesIn(m)
		for _, most := range []int{math.MinInt, -1, 0, 1, 2, 5, size - 2, size - 1, size, size + 1, nodes - 2, nodes - 1, nodes, nodes + 1, math.MaxInt} {
			if got := target.Size(a, most); got != upTo(size, most) {
				t.Fatalf("Size(%s, %d): %d, want %d", brief(plainType0(a)), most, got, upTo(size, most))
			}
			if got := target.Nodes(m, most); got != upTo(nodes, most) {
				t.Fatalf("Nodes(%s, %d): %d, want %d", brief(plainTerm0(m)), most, got, upTo(nodes, most))
			}
		}
	}
}

// TestP905Stops: as soon as there are more than most; a count of all nodes of these would not end.
func TestP905Stops(t *testing.T) {
	a, m := v(1), fail(v(1))
	for range 60 {
		a = pair(a, a)
		m = app(m, m)
	}
	for _, most := range []int{-1, 0, 1, 5, 100000} {
		if got := target.Size(a, most); got != most+1 {
			t.Errorf("Size, at most %d: %d", most, got)
		}
		if got := target.Nodes(m, most); got != most+1 {
			t.Errorf("Nodes, at most %d: %d", most, got)
		}
		if got := target.Nodes(fail(a), most); got != most+1 {
			t.Errorf("Nodes of a type, at most %d: %d", most, got)
		}
	}
	broad := sum(slices.Repeat([]api.TT{unit()}, 1000000)...)
	if got := target.Size(broad, math.MaxInt); got != 1000001 {
		t.Errorf("Size of a broad type: %d", got)
	}
	if got := target.Size(chain(api.GMu, deepest, unit()), math.MaxInt); got != deepest {
		t.Errorf("Size of a deep type: %d", got)
	}
	if got := target.Nodes(xchain(deepest, xint(1)), deepest-1); got != deepest {
		t.Errorf("Nodes of a deep term: %d", got)
	}
}
