package unify

import "wafer/api"

// fact: what is known of a class, which is all the metas that are known to be the same. A number that is not the store's has a class, too, of which nothing can be known but which metas of the store are in it.
type fact struct {
	up    int       // the number by which the class is found; its own one, if this fact is the class's: else the other fields say nothing
	rank  int       // how many steps up others may have to go to it
	least int       // the least number of the class
	most  int       // the greatest one
	is    *api.Type // what the class is; nil, if that is open
	size  int       // how many nodes its resolved type has
	users *users    // the classes whose types it stands in
}

// raw: the fact of a number; nil, if nothing is known of it.
func (s *Store) raw(n int) *fact {
	if n < len(s.known) {
		return s.known[n]
	}
	return s.ahead[n]
}

// put: keeps a fact of a number.
func (s *Store) put(n int, f *fact) {
	switch {
	case n < len(s.known):
		s.known[n] = f
	case f == nil:
		delete(s.ahead, n)
	default:
		s.ahead[n] = f
	}
}

// at: the fact of a number, whether or not something is known of it.
func (s *Store) at(n int) fact {
	if f := s.raw(n); f != nil {
		return *f
	}
	return fact{up: n, least: n, most: n, size: 1}
}

// root: the number whose fact is that of the class of n.
func (s *Store) root(n int) int {
	for {
		f := s.raw(n)
		if f == nil || f.up == n {
			return n
		}
		n = f.up
	}
}

// class: the root of a type's class, and whether it has one.
func (s *Store) class(t api.Type) (int, bool) {
	// A number below 0 will never be the store's, so such a type is a node like any other.
	if t.Kind != api.TMeta || t.N < 0 || len(t.Kids) > 0 {
		return 0, false
	}
	return s.root(t.N), true
}

// strange: is a number in the class that is not the store's? There is at most one such, and the class is the same as it for good, or until Meta comes to it.
func (s *Store) strange(f fact) bool { return f.most >= len(s.known) }

// own: what is told of an open class.
func (s *Store) own(f fact) api.Type {
	if s.strange(f) {
		return meta(f.most)
	}
	return meta(f.least)
}

func meta(n int) api.Type { return api.Type{Kind: api.TMeta, N: n} }

// users: numbers of classes, some perhaps more than once: a leaf has one, a branch what its two have. It is never written again.
type users struct {
	n           int
	left, right *users
}

// both: the numbers of two.
func both(a, b *users) *users {
	switch {
	case a == nil:
		return b
	case b == nil:
		return a
	}
	return &users{left: a, right: b}
}

// all: tells the numbers one by one. Branches may be nested as deep as there are numbers, so they wait in a list.
func (u *users) all(yield func(int) bool) {
	for wait := []*users{u}; len(wait) > 0; {
		last := len(wait) - 1
		next := wait[last]
		wait = wait[:last]
		switch {
		case next == nil:
		case next.left != nil:
			wait = append(wait, next.left, next.right)
		case !yield(next.n):
			return
		}
	}
}
