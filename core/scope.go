package core

// scope: the names that are bound around a place in a declaration, each with something.
type scope[T any] struct {
	names []string
	are   []T
	at    map[string][]int // where a name stands in names, the nearest one last
}

func newScope[T any]() scope[T] { return scope[T]{at: map[string][]int{}} }

// count: how many names are bound, hidden ones among them.
func (s *scope[T]) count() int { return len(s.names) }

func (s *scope[T]) bind(name string, is T) {
	s.at[name] = append(s.at[name], len(s.names))
	s.names, s.are = append(s.names, name), append(s.are, is)
}

// nearest: what a name stands for, and whether it is bound.
func (s *scope[T]) nearest(name string) (T, bool) {
	l := s.at[name]
	if len(l) == 0 {
		var none T
		return none, false
	}
	return s.are[l[len(l)-1]], true
}

// leave: from here on only the first so many names are bound.
func (s *scope[T]) leave(count int) {
	for i := len(s.names) - 1; i >= count; i-- {
		l := s.at[s.names[i]]
		s.at[s.names[i]] = l[:len(l)-1]
	}
	s.names, s.are = s.names[:count], s.are[:count]
}
