package core_test

import (
	"fmt"
	"strconv"

	"wafer/api"
	"wafer/names"
)

// What terms and expressions come to: an int64, a bool, a unitValue, a pairValue, a record, a function; of terms an injection, of expressions a con.
type (
	unitValue struct{}
	pairValue [2]any
	injection struct {
		n   int
		has any
	}
	con struct {
		name string
		has  []any // one, once it was applied
	}
	record   map[string]any
	function func(any) any
)

// bound: what names stand for, the nearest one first.
type bound struct {
	name string
	is   any
	up   *bound
}

func (b *bound) with(name string, is any) *bound { return &bound{name, is, b} }

func (b *bound) look(name string) any {
	for ; b != nil; b = b.up {
		if b.name == name {
			return b.is
		}
	}
	panic("nothing is called " + name)
}

// run: what is spent of fuel, and how things are made of constructors there. What stops goes up as an error by panic.
type run struct {
	fuel, spent int
	made        func(stamp int, name string, has ...any) any
}

func (r *run) step() {
	if r.spent == r.fuel {
		panic(api.ErrFuel)
	}
	r.spent++
}

func operate(op int, a, b int64) any {
	switch op {
	case api.OAdd:
		return a + b
	case api.OSub:
		return a - b
	case api.OMul:
		return a * b
	case api.ODiv:
		if b == 0 {
			panic(api.ErrZero)
		}
		return a / b
	case api.OEq:
		return a == b
	}
	return a < b
}

// mean: what a term comes to. It panics, if it is stuck.
func (r *run) mean(m api.TM, b *bound) any {
	kid := func(i int) any { return r.mean(m.Kids[i], b) }
	switch m.Kind {
	case api.XInt:
		return m.Int
	case api.XBool:
		return m.Int == 1
	case api.XUnit:
		return unitValue{}
	case api.XVar:
		return b.look(m.Name)
	case api.XLam:
		return function(func(x any) any { return r.mean(m.Kids[0], b.with(m.Name, x)) })
	case api.XFix:
		var self function
		self = func(x any) any { return r.mean(m.Kids[0], b.with(m.Name, self).with(m.Labels[0], x)) }
		return self
	case api.XApp:
		f, x := kid(0), kid(1)
		return f.(function)(x)
	case api.XLet:
		return r.mean(m.Kids[1], b.with(m.Name, kid(0)))
	case api.XPair:
		return pairValue{kid(0), kid(1)}
	case api.XFst:
		return kid(0).(pairValue)[0]
	case api.XSnd:
		return kid(0).(pairValue)[1]
	case api.XIf:
		if kid(0).(bool) {
			return kid(1)
		}
		return kid(2)
	case api.XBin:
		x, y := kid(0), kid(1)
		return operate(m.N, x.(int64), y.(int64))
	case api.XSel:
		return kid(0).(record)[m.Name]
	case api.XCase:
		x := kid(0).(injection)
		return r.mean(m.Kids[x.n+1], b.with(m.Labels[x.n], x.has))
	case api.XAll, api.XInst:
		return kid(0)
	case api.XFail:
		panic(api.ErrCase)
	case api.XTick:
		r.step()
		return kid(0)
	}
	panic(fmt.Sprint("another kind: ", m.Kind))
}

func called(f, x any) any {
	if c, ok := f.(con); ok {
		if len(c.has) > 0 {
			panic("a constructor that has something is applied")
		}
		return con{c.name, []any{x}}
	}
	return f.(function)(x)
}

// source: what an expression comes to, by what chapter 21 says of it.
func (r *run) source(x api.Exp, b *bound) any {
	kid := func(i int) any { return r.source(x.Kids[i], b) }
	switch x.Kind {
	case api.EInt:
		return x.N
	case api.ETrue, api.EFalse:
		return x.Kind == api.ETrue
	case api.EUnit:
		return unitValue{}
	case api.EVar:
		if len(x.Path) == 1 {
			return b.look(x.Path[0])
		}
		return b.look(names.Join(x.Path))
	case api.ECon:
		return con{name: x.Path[len(x.Path)-1]}
	case api.EFn:
		return function(func(arg any) any {
			r.step()
			return r.branches(x.Pats, x.Kids, arg, b)
		})
	case api.EApp:
		f, arg := kid(0), kid(1)
		return called(f, arg)
	case api.EPair:
		return pairValue{kid(0), kid(1)}
	case api.ELet:
		for _, d := range x.Decs {
			b = b.with(d.Name, r.declared(d, b))
		}
		return r.source(x.Kids[0], b)
	case api.EIf:
		if kid(0).(bool) {
			return kid(1)
		}
		return kid(2)
	case api.ECase:
		return r.branches(x.Pats, x.Kids[1:], kid(0), b)
	case api.EBin:
		p, q := kid(0), kid(1)
		return operate(x.Op, p.(int64), q.(int64))
	case api.EAnn:
		return kid(0)
	}
	panic("another kind")
}

// branches: the first one whose pattern fits.
func (r *run) branches(l []api.Pat, to []api.Exp, x any, b *bound) any {
	for i, p := range l {
		if in, ok := fits(p, x, b); ok {
			return r.source(to[i], in)
		}
	}
	panic(api.ErrCase)
}

func fits(p api.Pat, x any, b *bound) (*bound, bool) {
	switch p.Kind {
	case api.PVar:
		return b.with(p.Name, x), true
	case api.PInt:
		return b, x == p.N
	case api.PTrue, api.PFalse:
		return b, x == (p.Kind == api.PTrue)
	case api.PPair:
		b, ok := fits(p.Kids[0], x.(pairValue)[0], b)
		if !ok {
			return nil, false
		}
		return fits(p.Kids[1], x.(pairValue)[1], b)
	case api.PCon:
		c := x.(con)
		if c.name != p.Path[len(p.Path)-1] {
			return nil, false
		}
		if len(p.Kids) == 1 {
			return fits(p.Kids[0], c.has[0], b)
		}
	}
	return b, true
}

func (r *run) declared(d api.Dec, b *bound) any {
	if d.Kind == api.DVal {
		return r.source(d.Exps[0], b)
	}
	var wait func(l []any) function
	wait = func(l []any) function {
		return func(x any) any {
			l := append(l[:len(l):len(l)], x)
			if len(l) < len(d.Params) {
				return wait(l)
			}
			r.step()
			in := b.with(d.Name, wait(nil))
			for i, name := range d.Params {
				in = in.with(name, l[i])
			}
			return r.source(d.Exps[0], in)
		}
	}
	return wait(nil)
}

// library: the values of the world; that of the constructor Cons, and Nil, and Box, Red, are made by whoever asks.
func library(call func(f, x any) any, made func(stamp int, name string, has ...any) any) map[string]any {
	list := func(l ...int64) any {
		out := made(1, "Nil")
		for _, n := range l {
			out = made(1, "Cons", pairValue{n, out})
		}
		return out
	}
	return map[string]any{
		"one": int64(1), "flag": true, "void": unitValue{}, "nums": list(3, 1, 2), "h": int64(77),
		"ident": function(func(x any) any { return x }),
		"const": function(func(x any) any { return function(func(any) any { return x }) }),
		"swap":  function(func(x any) any { return pairValue{x.(pairValue)[1], x.(pairValue)[0]} }),
		"twice": function(func(f any) any { return function(func(x any) any { return call(f, call(f, x)) }) }),
		"inc":   function(func(x any) any { return x.(int64) + 1 }),
		"seen":  function(func(x any) any { return x.(int64) * 2 }),
		"stuck": function(func(x any) any { panic(api.ErrZero) }),
		"M.x":   int64(5), "M.get": function(func(x any) any { return x }), "M.mk": function(func(x any) any { return x }),
		"M.dup":   function(func(x any) any { return pairValue{x, x} }),
		"M.on":    function(func(f any) any { return function(func(x any) any { return call(f, x) }) }),
		"M.N.one": false, "M.N.y": made(5, "Box", pairValue{made(4, "Green"), list(9)}),
		"M.N.fst": function(func(x any) any { return x.(pairValue)[0] }),
	}
}

// sourceWorld: what names and paths stand for, where expressions run.
func sourceWorld() *bound {
	var b *bound
	for name, x := range library(called, madeInSource) {
		b = b.with(name, x)
	}
	return b
}

func madeInSource(_ int, name string, has ...any) any { return con{name, has} }

func madeInTarget(stamp int, name string, has ...any) any {
	d, _ := datatype(stamp)
	for n, c := range d.ctors {
		switch {
		case c.Name != name:
		case len(has) == 0:
			return injection{n, unitValue{}}
		default:
			return injection{n, has[0]}
		}
	}
	panic("no constructor")
}

// targetWorld: the same, where terms run: structures are records.
func targetWorld() *bound {
	var b *bound
	m, n := record{}, record{}
	m["N"] = n
	put := func(path, label string, x any) {
		switch path {
		case "":
			b = b.with(label, x)
		case "M.":
			m[label] = x
		case "M.N.":
			n[label] = x
		}
	}
	for path, x := range library(func(f, x any) any { return f.(function)(x) }, madeInTarget) {
		p := id(path).Path
		put(path[:len(path)-len(p[len(p)-1])], p[len(p)-1], x)
	}
	for _, d := range world() {
		put(d.at, names.Out(d.name), function(func(x any) any { return x.(injection) }))
		for i, c := range d.ctors {
			if len(c.Args) == 0 {
				put(d.at, names.Con(c.Name), injection{i, unitValue{}})
			} else {
				put(d.at, names.Con(c.Name), function(func(x any) any { return injection{i, x} }))
			}
		}
	}
	return b.with("M", m)
}

// read: a value of a type as a text. Functions from what something is told for below are applied to it, so that they are told apart.
func (r *run) read(x any, t api.Type, depth int) string {
	switch t.Kind {
	case api.TInt, api.TGen:
		return strconv.FormatInt(x.(int64), 10)
	case api.TBool:
		return strconv.FormatBool(x.(bool))
	case api.TUnit:
		_ = x.(unitValue)
		return "()"
	case api.TPair:
		return "(" + r.read(x.(pairValue)[0], t.Kids[0], depth) + ", " + r.read(x.(pairValue)[1], t.Kids[1], depth) + ")"
	case api.TFn:
		if depth == 0 {
			return "fn"
		}
		return "fn " + r.read(called(x, r.sample(t.Kids[0])), t.Kids[1], depth-1)
	}
	d, ok := datatype(t.N)
	if !ok {
		return strconv.FormatInt(x.(int64), 10)
	}
	name, has := "", any(nil)
	switch x := x.(type) {
	case injection:
		name, has = d.ctors[x.n].Name, x.has
	case con:
		name = x.name
		if len(x.has) > 0 {
			has = x.has[0]
		}
	}
	for _, c := range d.ctors {
		if c.Name == name && len(c.Args) > 0 {
			return name + " (" + r.read(has, c.Args[0], depth) + ")"
		}
	}
	return name
}

// sample: something of a type; what is open is an int.
func (r *run) sample(t api.Type) any {
	switch t.Kind {
	case api.TInt, api.TGen:
		return int64(2)
	case api.TBool:
		return true
	case api.TUnit:
		return unitValue{}
	case api.TPair:
		return pairValue{r.sample(t.Kids[0]), r.sample(t.Kids[1])}
	case api.TFn:
		to := r.sample(t.Kids[1])
		return function(func(any) any { return to })
	}
	switch t.N {
	case 1:
		return r.made(1, "Cons", pairValue{int64(1), r.made(1, "Nil")})
	case 2:
		return r.made(2, "Mark", r.made(1, "Nil"))
	case 3:
		return r.made(3, "Act", function(func(x any) any { return x.(int64) + 5 }))
	case 4:
		return r.made(4, "Green")
	case 5:
		return r.made(5, "Cons", unitValue{})
	case 7:
		return r.made(7, "Dot")
	}
	return int64(4)
}

// ended: what is read of what some way comes to, or its error, and the steps.
func ended(r *run, t api.Type, way func() any) (out string) {
	defer func() {
		if e := recover(); e != nil {
			err, ok := e.(api.Errno)
			if !ok {
				panic(e)
			}
			out = fmt.Sprint(stopped(err), " in ", r.spent)
		}
	}()
	out = r.read(way(), t, 3)
	return fmt.Sprint(out, " in ", r.spent)
}

// stopped: an error's short name.
func stopped(err api.Errno) string {
	switch err {
	case api.ErrFuel:
		return "ErrFuel"
	case api.ErrCase:
		return "ErrCase"
	case api.ErrZero:
		return "ErrZero"
	}
	return err.Error()
}

// runs: what the source of a declaration comes to; meant: what its term does. Both with the fuel, read by the type.
func runs(d api.Dec, fuel int, t api.Type) string {
	r := &run{fuel: fuel, made: madeInSource}
	return ended(r, t, func() any { return r.declared(d, sourceWorld()) })
}

func meant(m api.TM, fuel int, t api.Type) string {
	r := &run{fuel: fuel, made: madeInTarget}
	return ended(r, t, func() any { return r.mean(m, targetWorld()) })
}
