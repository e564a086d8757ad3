package pattern_test

import (
	"fmt"
	"maps"

	"wafer/api"
)

// What a term comes to: an int64, a bool, a unitValue, a pairValue, an injection, a record, a function.
type (
	unitValue struct{}
	pairValue [2]any
	injection struct {
		n   int
		has any
	}
	record   map[string]any
	function func(any) any
	taker    struct{} // what takes a datatype apart: two of them can be held against one another
	scope    map[string]any
)

// failed: an XFail, by panic.
type failed struct{}

func (s scope) with(name string, x any) scope {
	s = maps.Clone(s)
	s[name] = x
	return s
}

// mean: what a term comes to. It panics, if it is stuck.
func mean(m api.TM, s scope) any {
	kid := func(i int) any { return mean(m.Kids[i], s) }
	switch m.Kind {
	case api.XInt:
		return m.Int
	case api.XBool:
		return m.Int == 1
	case api.XUnit:
		return unitValue{}
	case api.XVar:
		x, ok := s[m.Name]
		if !ok {
			panic("nothing is called " + m.Name)
		}
		return x
	case api.XLam:
		return function(func(x any) any { return mean(m.Kids[0], s.with(m.Name, x)) })
	case api.XApp:
		f, x := kid(0), kid(1)
		if _, ok := f.(taker); ok {
			return x.(injection)
		}
		return f.(function)(x)
	case api.XLet:
		return mean(m.Kids[1], s.with(m.Name, kid(0)))
	case api.XPair:
		return pairValue{kid(0), kid(1)}
	case api.XFst:
		return kid(0).(pairValue)[0]
	case api.XSnd:
		return kid(0).(pairValue)[1]
	case api.XIf:
		if kid(0).(bool) {
			return kid(1)
		}
		return kid(2)
	case api.XBin:
		a, b := kid(0).(int64), kid(1).(int64)
		if m.N != api.OEq {
			panic("another operator")
		}
		return a == b
	case api.XSel:
		return kid(0).(record)[m.Name]
	case api.XCase:
		x := kid(0).(injection)
		return mean(m.Kids[x.n+1], s.with(m.Labels[x.n], x.has))
	case api.XFail:
		panic(failed{})
	}
	panic(fmt.Sprint("another kind: ", m.Kind))
}

// meant: what a plain value of a type of the world is where terms run.
func meant(x api.Value, t api.Type) any {
	switch t.Kind {
	case api.TInt:
		return x.N
	case api.TBool:
		return x.N == 1
	case api.TUnit:
		return unitValue{}
	case api.TPair:
		return pairValue{meant(x.Kids[0], t.Kids[0]), meant(x.Kids[1], t.Kids[1])}
	}
	for n, c := range of(t.N).ctors {
		switch {
		case c.Name != x.Name:
		case len(c.Args) == 0:
			return injection{n, unitValue{}}
		default:
			return injection{n, meant(x.Kids[0], c.Args[0])}
		}
	}
	panic("no constructor " + x.Name)
}

// around: what stands around the terms of the world.
func around(outs map[int]string) scope {
	m, n := record{}, record{}
	s := scope{"M": m}
	for _, d := range world() {
		switch {
		case d.at == "M.":
			m[d.out()] = taker{}
		case d.at == "M.N.":
			n[d.out()] = taker{}
		case outs[d.stamp] != "":
			s[outs[d.stamp]] = taker{}
		default:
			s[d.out()] = taker{}
		}
	}
	m["N"] = n
	return s
}
