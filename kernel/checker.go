package kernel

import (
	"slices"

	"wafer/api"
)

// numbers: a set of numbers of type variables.
type numbers map[int]struct{}

func numbersOf(l []int) numbers {
	s := numbers{}
	for _, n := range l {
		s[n] = struct{}{}
	}
	return s
}

func (s numbers) has(n int) bool {
	_, ok := s[n]
	return ok
}

// cover: are the free variables of a type all in the set?
func (s numbers) cover(t *held) bool {
	for _, n := range t.free() {
		if !s.has(n) {
			return false
		}
	}
	return true
}

// named: a name and its type; nil, if it has none.
type named struct {
	name string
	t    *held
}

// checker: goes through a term, with the surroundings of the part at which it is.
type checker struct {
	rules   [kinds]rule
	numbers numbers
	names   map[string]*held
}

func newChecker(vars []int, l []Bind) *checker {
	c := &checker{rules: rulesByKind(), numbers: numbersOf(vars), names: map[string]*held{}}
	for _, b := range l {
		c.names[b.Name] = &held{TT: b.T}
	}
	return c
}

// of: the type of a term, which must fit.
func (c *checker) of(m *api.TM) *held {
	t := c.rules[m.Kind](c, m)
	t.mustFit()
	return t
}

// under: the type of a term with more names in scope, of which a later one is nearer.
func (c *checker) under(m *api.TM, l ...named) *held {
	outer := make([]named, len(l))
	for i, b := range l {
		outer[i] = named{b.name, c.names[b.name]}
		c.names[b.name] = b.t
	}
	t := c.of(m)
	for _, b := range slices.Backward(outer) {
		c.names[b.name] = b.t
	}
	return t
}

// bind: brings a number into scope, which must not have been there.
func (c *checker) bind(n int) {
	must(!c.numbers.has(n))
	c.numbers[n] = struct{}{}
}

// unbind: takes it out of scope again.
func (c *checker) unbind(n int) { delete(c.numbers, n) }

// typeIn: a type that a term names, which must be in scope. (That it is right was asked of the whole term.)
func (c *checker) typeIn(m *api.TM, i int) *held {
	t := &held{TT: m.Types[i]}
	must(c.numbers.cover(t))
	return t
}
