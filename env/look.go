package env

import (
	"iter"

	"wafer/api"
)

// finder: how things of one kind stand in an environment, as E, and in a structure, as M. Both are told from the last one on: of several of one name the first that is told counts.
type finder[E, M any] struct {
	entries iter.Seq2[string, *E]
	members func(*api.Str) iter.Seq2[string, M]
	entry   func(m M, x api.TM) E // what a member of a structure whose term is x comes to
	renew   func(*E)
}

// look: what stands at a path, in new memory, or ErrUnbound.
func look[E, M any](e *Env, path []string, in func(*Env) finder[E, M]) (E, api.Errno) {
	f := in(e)
	found, ok := find(e, path, f)
	if !ok {
		return found, api.ErrUnbound
	}
	f.renew(&found)
	return found, api.OK
}

// find: what stands at a path, with lists that it shares with the environment, and whether it is there.
func find[E, M any](e *Env, path []string, f finder[E, M]) (E, bool) {
	var none E
	if len(path) == 0 {
		return none, false
	}
	last := len(path) - 1
	if last == 0 {
		found, ok := first(f.entries, path[0])
		if !ok {
			return none, false
		}
		return *found, true
	}
	in, ok := within(e, path[:last])
	if !ok {
		return none, false
	}
	m, ok := first(f.members(&in.S), path[last])
	if !ok {
		return none, false
	}
	return f.entry(m, in.X), true
}

// within: the structure at a path that is not empty. (Step by step: a path may be longer than anything is nested.)
func within(e *Env, path []string) (Sub, bool) {
	f := subs(e)
	at, ok := first(f.entries, path[0])
	if !ok {
		return Sub{}, false
	}
	in := *at
	for _, name := range path[1:] {
		m, ok := first(f.members(&in.S), name)
		if !ok {
			return Sub{}, false
		}
		in = f.entry(m, in.X)
	}
	return in, true
}

// first: the first that is told with a name.
func first[T any](told iter.Seq2[string, T], name string) (T, bool) {
	for n, one := range told {
		if n == name {
			return one, true
		}
	}
	var none T
	return none, false
}

// backward: the elements of a list with their names, from the last one on.
func backward[T any](l []T, name func(*T) string) iter.Seq2[string, *T] {
	return func(yield func(string, *T) bool) {
		for i := len(l) - 1; i >= 0; i-- {
			if !yield(name(&l[i]), &l[i]) {
				return
			}
		}
	}
}
