package target

import (
	"strings"

	"wafer/api"
)

// hidden: what a key stood for outside of a binder of the same key.
type hidden[K comparable] struct {
	key   K
	as    int
	bound bool
}

// scope: the keys that are bound where a walk stands; each stands for a number that the walk gave to its nearest binder. They are in a map, since there may be as many as parts that are nested.
type scope[K comparable] struct {
	as    map[K]int
	outer []hidden[K]
}

func (s *scope[K]) depth() int { return len(s.outer) }

func (s *scope[K]) find(key K) (as int, bound bool) {
	as, bound = s.as[key]
	return as, bound
}

func (s *scope[K]) bind(key K, as int) {
	if s.as == nil {
		s.as = map[K]int{}
	}
	old, bound := s.as[key]
	s.outer = append(s.outer, hidden[K]{key, old, bound})
	s.as[key] = as
}

// back: unbinds what was bound last, till so many binders are left.
func (s *scope[K]) back(depth int) {
	for len(s.outer) > depth {
		last := s.outer[len(s.outer)-1]
		s.outer = s.outer[:len(s.outer)-1]
		if last.bound {
			s.as[last.key] = last.as
		} else {
			delete(s.as, last.key)
		}
	}
}

// mark: how many numbers and names are bound.
type mark struct{ numbers, names int }

// walker: goes through types and terms. It keeps what is bound where it stands, and the text so far, if it writes one.
type walker struct {
	strings.Builder
	numbers scope[int]
	names   scope[string]
}

func (w *walker) here() mark { return mark{w.numbers.depth(), w.names.depth()} }

func (w *walker) back(to mark) {
	w.numbers.back(to.numbers)
	w.names.back(to.names)
}

// bindNumber: binds a number as how many are bound around it: two that are bound at one place of two types then stand for the same.
func (w *walker) bindNumber(n int) { w.numbers.bind(n, w.numbers.depth()) }

// bindName: the same of a name.
func (w *walker) bindName(name string) { w.names.bind(name, w.names.depth()) }

// into: binds what a type binds in its Kids, and answers where to go back to.
func (w *walker) into(t *api.TT) mark {
	outer := w.here()
	if binds(t) {
		w.bindNumber(t.N)
	}
	return outer
}

// intoKid: binds what a term binds in one of its Kids, and answers where to go back to.
func (w *walker) intoKid(m *api.TM, i int) mark {
	outer := w.here()
	if bindsIn(m, i) {
		w.bindNumber(m.N)
	}
	switch m.Kind {
	case api.XLam:
		w.bindName(m.Name)
	case api.XFix:
		w.bindName(m.Name)
		// The parameter is bound behind the function's name: it is the nearer one.
		if len(m.Labels) > 0 {
			w.bindName(m.Labels[0])
		}
	case api.XLet, api.XOpen:
		if i > 0 {
			w.bindName(m.Name)
		}
	case api.XCase:
		if i > 0 && i <= len(m.Labels) {
			w.bindName(m.Labels[i-1])
		}
	}
	return outer
}

// binds: is a type's N bound in its Kids?
func binds(t *api.TT) bool {
	return t.Kind == api.GMu || t.Kind == api.GAll || t.Kind == api.GEx
}

// bindsIn: is a term's N bound in this one of its Kids?
func bindsIn(m *api.TM, i int) bool {
	return m.Kind == api.XAll || m.Kind == api.XOpen && i > 0
}

// hidesNumber: is a term's N one that it binds, of which only its place counts?
func hidesNumber(m *api.TM) bool {
	return m.Kind == api.XAll || m.Kind == api.XOpen
}

// hidesName: the same of its Name.
func hidesName(m *api.TM) bool {
	switch m.Kind {
	case api.XLam, api.XFix, api.XLet, api.XOpen:
		return true
	}
	return false
}

// hidesLabel: the same of one of its Labels.
func hidesLabel(m *api.TM, i int) bool {
	return m.Kind == api.XCase || m.Kind == api.XFix && i == 0
}
