package unify

import (
	"slices"

	"wafer/api"
	"wafer/types"
)

// joiner: one call of Unify, and what it has changed so far. Between any two changes no type is a part of itself: so all walks end.
type joiner struct {
	*Store
	changes []change
}

// change: what the fact of a number was.
type change struct {
	n   int
	was *fact
}

func (j *joiner) set(n int, f fact) {
	j.changes = append(j.changes, change{n, j.raw(n)})
	j.put(n, &f)
}

func (j *joiner) takeBack() {
	for _, c := range slices.Backward(j.changes) {
		j.put(c.n, c.was)
	}
}

// same: makes two types the same; false, if they can't be.
func (j *joiner) same(a, b api.Type) bool {
	first, one := j.class(a)
	second, two := j.class(b)
	switch {
	case one && two:
		return j.join(first, second)
	case one:
		return j.fill(first, b)
	case two:
		return j.fill(second, a)
	}
	if a.Kind != b.Kind || a.N != b.N || len(a.Kids) != len(b.Kids) {
		return false
	}
	for i, kid := range a.Kids {
		if !j.same(kid, b.Kids[i]) {
			return false
		}
	}
	return true
}

// join: makes two classes one.
func (j *joiner) join(a, b int) bool {
	if a == b {
		return true
	}
	if j.at(a).is == nil {
		a, b = b, a
	}
	x, y := j.at(a), j.at(b)
	switch {
	case y.is != nil:
		// If one of both stood in the other's type, that would have failed: so a and b still are the roots.
		if !j.same(*x.is, *y.is) {
			return false
		}
		j.merge(a, b)
		return true
	case j.strange(y) && (x.is != nil || j.strange(x)), x.is != nil && j.has(*x.is, b):
		return false
	}
	j.merge(a, b)
	return x.size == y.size || j.spread(y.users)
}

// merge: makes two classes one, which is what either of them is: if both are something, that is the same by now.
func (j *joiner) merge(a, b int) {
	x, y := j.at(a), j.at(b)
	if x.rank < y.rank {
		a, b, x, y = b, a, y, x
	}
	if x.rank == y.rank {
		x.rank++
	}
	if x.is == nil {
		x.is, x.size = y.is, y.size
	}
	x.least, x.most = min(x.least, y.least), max(x.most, y.most)
	x.users = both(x.users, y.users)
	j.set(a, x)
	j.set(b, fact{up: a})
}

// fill: makes a class and a type that has none the same.
func (j *joiner) fill(n int, t api.Type) bool {
	f := j.at(n)
	if f.is != nil {
		return j.same(*f.is, t)
	}
	size := j.size(t)
	if j.strange(f) || size > api.MaxType || j.has(t, n) {
		return false
	}
	is := fresh(t)
	f.is, f.size = &is, size
	j.set(n, f)
	j.enlist(n, is)
	return size == 1 || j.spread(f.users)
}

// enlist: keeps for each class in a type that the class n is that type.
func (j *joiner) enlist(n int, t api.Type) {
	for _, m := range types.Metas(t) {
		if m < 0 {
			continue
		}
		m = j.root(m)
		f := j.at(m)
		f.users = both(f.users, &users{n: n})
		j.set(m, f)
	}
}

// spread: counts the nodes of classes anew, since what stands in their types has become greater, and of those in whose types these stand; false, if one is too great.
func (j *joiner) spread(u *users) bool {
	for n := range u.all {
		n = j.root(n)
		f := j.at(n)
		size := j.size(*f.is)
		if size > api.MaxType {
			return false
		}
		if size == f.size {
			continue
		}
		f.size = size
		j.set(n, f)
		if !j.spread(f.users) {
			return false
		}
	}
	return true
}
