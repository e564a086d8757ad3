package modules_test

import (
	"fmt"
	"slices"
	"strconv"
	"strings"

	"wafer/api"
)

// What terms and sources come to: an int64, a bool, a unitValue, a pairValue, a record, a function; of terms an injection, of sources a con and a maker of structures.
type (
	unitValue struct{}
	pairValue [2]any
	injection struct {
		n   int
		has any
	}
	con1 struct {
		name string
		has  []any // one, once it was applied
	}
	record   map[string]any
	function func(any) any
	functor  func(record) record
)

// bound: what names stand for, the nearest one first.
type bound struct {
	name string
	is   any
	up   *bound
}

func (b *bound) with(name string, is any) *bound { return &bound{name, is, b} }

func (b *bound) look(name string) any {
	for ; b != nil; b = b.up {
		if b.name == name {
			return b.is
		}
	}
	panic("nothing is called " + name)
}

// at: what stands at a path.
func (b *bound) at(path []string) any {
	x := b.look(path[0])
	for _, name := range path[1:] {
		is, ok := x.(record)[name]
		if !ok {
			panic("nothing is called " + name)
		}
		x = is
	}
	return x
}

// run: what is spent of fuel. What stops goes up as an error by panic.
type run struct{ fuel, spent int }

func (r *run) step() {
	if r.spent == r.fuel {
		panic(api.ErrFuel)
	}
	r.spent++
}

func operate(op int, a, b int64) any {
	switch op {
	case api.OAdd:
		return a + b
	case api.OSub:
		return a - b
	case api.OMul:
		return a * b
	case api.ODiv:
		if b == 0 {
			panic(api.ErrZero)
		}
		return a / b
	case api.OEq:
		return a == b
	}
	return a < b
}

// mean: what a term comes to. It panics, if it is stuck.
func (r *run) mean(m api.TM, b *bound) any {
	kid := func(i int) any { return r.mean(m.Kids[i], b) }
	switch m.Kind {
	case api.XInt:
		return m.Int
	case api.XBool:
		return m.Int == 1
	case api.XUnit:
		return unitValue{}
	case api.XVar:
		return b.look(m.Name)
	case api.XLam:
		return function(func(x any) any { return r.mean(m.Kids[0], b.with(m.Name, x)) })
	case api.XFix:
		var self function
		self = func(x any) any { return r.mean(m.Kids[0], b.with(m.Name, self).with(m.Labels[0], x)) }
		return self
	case api.XApp:
		f, x := kid(0), kid(1)
		return f.(function)(x)
	case api.XLet, api.XOpen:
		return r.mean(m.Kids[1], b.with(m.Name, kid(0)))
	case api.XPair:
		return pairValue{kid(0), kid(1)}
	case api.XFst:
		return kid(0).(pairValue)[0]
	case api.XSnd:
		return kid(0).(pairValue)[1]
	case api.XIf:
		if kid(0).(bool) {
			return kid(1)
		}
		return kid(2)
	case api.XBin:
		x, y := kid(0), kid(1)
		return operate(m.N, x.(int64), y.(int64))
	case api.XRec:
		s := record{}
		for i, label := range m.Labels {
			s[label] = kid(i)
		}
		return s
	case api.XSel:
		x, ok := kid(0).(record)[m.Name]
		if !ok {
			panic("no label " + m.Name)
		}
		return x
	case api.XInj:
		return injection{m.N, kid(0)}
	case api.XCase:
		x := kid(0).(injection)
		return r.mean(m.Kids[x.n+1], b.with(m.Labels[x.n], x.has))
	case api.XFold, api.XUnfold, api.XAll, api.XInst, api.XPack:
		return kid(0)
	case api.XFail:
		panic(api.ErrCase)
	case api.XTick:
		r.step()
		return kid(0)
	}
	panic(fmt.Sprint("another kind: ", m.Kind))
}

func called(f, x any) any {
	if c, ok := f.(con1); ok {
		if len(c.has) > 0 {
			panic("a constructor that has something is applied")
		}
		return con1{c.name, []any{x}}
	}
	return f.(function)(x)
}

// source: what an expression comes to, by what chapter 21 says of it.
func (r *run) source(x api.Exp, b *bound) any {
	kid := func(i int) any { return r.source(x.Kids[i], b) }
	switch x.Kind {
	case api.EInt:
		return x.N
	case api.ETrue, api.EFalse:
		return x.Kind == api.ETrue
	case api.EUnit:
		return unitValue{}
	case api.EVar:
		return b.at(x.Path)
	case api.ECon:
		return con1{name: x.Path[len(x.Path)-1]}
	case api.EFn:
		return function(func(arg any) any {
			r.step()
			return r.branches(x.Pats, x.Kids, arg, b)
		})
	case api.EApp:
		f, arg := kid(0), kid(1)
		return called(f, arg)
	case api.EPair:
		return pairValue{kid(0), kid(1)}
	case api.ELet:
		for _, d := range x.Decs {
			b = b.with(d.Name, r.value(d, b))
		}
		return r.source(x.Kids[0], b)
	case api.EIf:
		if kid(0).(bool) {
			return kid(1)
		}
		return kid(2)
	case api.ECase:
		return r.branches(x.Pats, x.Kids[1:], kid(0), b)
	case api.EBin:
		p, q := kid(0), kid(1)
		return operate(x.Op, p.(int64), q.(int64))
	case api.EAnn:
		return kid(0)
	}
	panic("another kind")
}

// branches: the first one whose pattern fits.
func (r *run) branches(l []api.Pat, to []api.Exp, x any, b *bound) any {
	for i, p := range l {
		if in, ok := fits(p, x, b); ok {
			return r.source(to[i], in)
		}
	}
	panic(api.ErrCase)
}

func fits(p api.Pat, x any, b *bound) (*bound, bool) {
	switch p.Kind {
	case api.PVar:
		return b.with(p.Name, x), true
	case api.PInt:
		return b, x == p.N
	case api.PTrue, api.PFalse:
		return b, x == (p.Kind == api.PTrue)
	case api.PPair:
		b, ok := fits(p.Kids[0], x.(pairValue)[0], b)
		if !ok {
			return nil, false
		}
		return fits(p.Kids[1], x.(pairValue)[1], b)
	case api.PCon:
		c := x.(con1)
		if c.name != p.Path[len(p.Path)-1] {
			return nil, false
		}
		if len(p.Kids) == 1 {
			return fits(p.Kids[0], c.has[0], b)
		}
	}
	return b, true
}

// value: what a val or a fun declares.
func (r *run) value(d api.Dec, b *bound) any {
	if d.Kind == api.DVal {
		return r.source(d.Exps[0], b)
	}
	var wait func(l []any) function
	wait = func(l []any) function {
		return func(x any) any {
			l := append(l[:len(l):len(l)], x)
			if len(l) < len(d.Params) {
				return wait(l)
			}
			r.step()
			in := b.with(d.Name, wait(nil))
			for i, name := range d.Params {
				in = in.with(name, l[i])
			}
			return r.source(d.Exps[0], in)
		}
	}
	return wait(nil)
}

// declared: what declarations declare, and the names that stand behind them.
func (r *run) declared(l []api.Dec, b *bound) (record, *bound) {
	s := record{}
	for _, d := range l {
		var is any
		switch d.Kind {
		case api.DVal, api.DFun:
			is = r.value(d, b)
		case api.DStr:
			is = r.structure(d.Mods[0], b)
		case api.DFunctor:
			here := b
			is = functor(func(x record) record {
				r.step()
				return r.structure(d.Mods[0], here.with(d.Params[0], x))
			})
		default:
			continue
		}
		s[d.Name] = is
		b = b.with(d.Name, is)
	}
	return s, b
}

func (r *run) structure(m api.Mod, b *bound) record {
	switch m.Kind {
	case api.MPath:
		return b.at(m.Path).(record)
	case api.MStruct:
		s, _ := r.declared(m.Decs, b)
		return s
	case api.MApp:
		f := b.at(m.Path).(functor)
		return f(r.structure(m.Mods[0], b))
	case api.MLet:
		_, b = r.declared(m.Decs, b)
	}
	return r.structure(m.Mods[0], b)
}

// reader: reads what a structure has, by its meaning, whatever it was made of.
type reader struct {
	*run
	ctors map[int][]api.Ctor // of each stamp
	some  map[int]any        // of a stamp some value
	out   []string
}

// gather: looks for the constructors and some values of each stamp.
func (r *reader) gather(s api.Str, in record) {
	for _, m := range s.Types {
		if len(m.Ctors) > 0 {
			r.ctors[m.T.N] = m.Ctors
		}
	}
	for _, m := range s.Vals {
		if m.S.T.Kind == api.TStamp {
			r.some[m.S.T.N] = in[m.Name]
		}
	}
	for _, m := range s.Subs {
		r.gather(m.S, in[m.Name].(record))
	}
}

// structureOf: reads all values of a structure.
func (r *reader) structureOf(s api.Str, in record, ahead string) {
	for _, m := range s.Vals {
		r.out = append(r.out, ahead+m.Name+" = "+r.read(in[m.Name], m.S.T, 3))
	}
	for _, m := range s.Subs {
		r.structureOf(m.S, in[m.Name].(record), ahead+m.Name+".")
	}
}

// read: a value of a type as a text. Functions are applied to something, if there is something for them, so that they are told apart.
func (r *reader) read(x any, t api.Type, depth int) string {
	switch t.Kind {
	case api.TInt, api.TGen:
		return strconv.FormatInt(x.(int64), 10)
	case api.TBool:
		return strconv.FormatBool(x.(bool))
	case api.TUnit:
		_ = x.(unitValue)
		return "()"
	case api.TPair:
		return "(" + r.read(x.(pairValue)[0], t.Kids[0], depth) + ", " + r.read(x.(pairValue)[1], t.Kids[1], depth) + ")"
	case api.TFn:
		arg, ok := r.sample(t.Kids[0])
		if depth == 0 || !ok {
			return "fn"
		}
		return "fn " + r.read(called(x, arg), t.Kids[1], depth-1)
	}
	ctors := r.ctors[t.N]
	name, has := "", any(nil)
	switch x := x.(type) {
	case injection:
		if len(ctors) == 0 {
			return "hidden"
		}
		name, has = ctors[x.n].Name, x.has
	case con1:
		if len(ctors) == 0 {
			return "hidden"
		}
		name = x.name
		if len(x.has) > 0 {
			has = x.has[0]
		}
	default:
		// What an abstract type hides may be anything; of some it can be told.
		if n, ok := x.(int64); ok {
			return "hidden " + strconv.FormatInt(n, 10)
		}
		return "hidden"
	}
	i := slices.IndexFunc(ctors, func(c api.Ctor) bool { return c.Name == name })
	if i < 0 {
		panic("no constructor " + name)
	}
	if len(ctors[i].Args) > 0 {
		return name + " (" + r.read(has, ctors[i].Args[0], depth) + ")"
	}
	return name
}

// sample: something of a type, if something is known; what is open is an int.
func (r *reader) sample(t api.Type) (any, bool) {
	switch t.Kind {
	case api.TInt, api.TGen:
		return int64(2), true
	case api.TBool:
		return true, true
	case api.TUnit:
		return unitValue{}, true
	case api.TPair:
		a, ok := r.sample(t.Kids[0])
		b, also := r.sample(t.Kids[1])
		return pairValue{a, b}, ok && also
	case api.TFn:
		to, ok := r.sample(t.Kids[1])
		return function(func(any) any { return to }), ok
	}
	x, ok := r.some[t.N]
	return x, ok
}

// ended: what is read of what some way comes to, or its error, and the steps.
func ended(fuel int, s api.Str, way func(*run) record) (out string) {
	r := reader{run: &run{fuel: fuel}, ctors: map[int][]api.Ctor{}, some: map[int]any{}}
	defer func() {
		if e := recover(); e != nil {
			err, ok := e.(api.Errno)
			if !ok {
				panic(e)
			}
			out = strings.Join(append(r.out, code(err)), ", ") + " in " + strconv.Itoa(r.spent)
		}
	}()
	is := way(r.run)
	r.gather(s, is)
	r.structureOf(s, is, "")
	return strings.Join(r.out, ", ") + " in " + strconv.Itoa(r.spent)
}

// runs: what the source comes to, of declarations by themselves; meant: what a term does. Both with the fuel, read by what the structure is.
func runs(l []api.Dec, fuel int, s api.Str) string {
	return ended(fuel, s, func(r *run) record {
		is, _ := r.declared(l, nil)
		return is
	})
}

func meant(x api.TM, fuel int, s api.Str) string {
	return ended(fuel, s, func(r *run) record { return r.mean(x, nil).(record) })
}
