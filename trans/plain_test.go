package trans_test

import (
	"slices"

	"wafer/api"
)

// What follows answers by the chapter's words alone, as plainly as can be.

// plainType: what a type becomes with so many TGen, of which the first one is the variable first; and whether it becomes anything.
func plainType(t api.Type, gens, first int) (api.TT, bool) {
	var kids []api.TT
	for _, kid := range t.Kids {
		k, ok := plainType(kid, gens, first)
		if !ok {
			return api.TT{}, false
		}
		kids = append(kids, k)
	}
	none, two := len(kids) == 0, len(kids) == 2
	switch {
	case t.Kind == api.TInt && t.N == 0 && none:
		return gint(), true
	case t.Kind == api.TBool && t.N == 0 && none:
		return gbool(), true
	case t.Kind == api.TUnit && t.N == 0 && none:
		return gunit(), true
	case t.Kind == api.TFn && t.N == 0 && two:
		return gfn(kids[0], kids[1]), true
	case t.Kind == api.TPair && t.N == 0 && two:
		return gpair(kids[0], kids[1]), true
	case t.Kind == api.TStamp && t.N >= 0 && t.N <= top && none:
		return v(t.N), true
	case t.Kind == api.TGen && t.N >= 0 && t.N < gens && none:
		return v(first + t.N), true
	}
	return api.TT{}, false
}

func told(t api.TT, ok bool) (api.TT, api.Errno) {
	if !ok {
		return api.TT{}, api.ErrArg
	}
	return t, api.OK
}

// numbersOf: those of the nodes of a kind, from the left.
func numbersOf(t api.Type, kind int) []int {
	var l []int
	if t.Kind == kind {
		l = append(l, t.N)
	}
	for _, kid := range t.Kids {
		l = append(l, numbersOf(kid, kind)...)
	}
	return l
}

func plainScheme(s api.Scheme) (api.TT, api.Errno) {
	k := 0
	for _, n := range numbersOf(s.T, api.TStamp) {
		if n < top+1 {
			k = max(k, n+1)
		}
	}
	next := 0
	for _, n := range numbersOf(s.T, api.TGen) {
		if n > next {
			return api.TT{}, api.ErrArg
		}
		if n == next {
			next++
		}
	}
	t, ok := plainType(s.T, s.Gens, k)
	if !ok || next != s.Gens {
		return api.TT{}, api.ErrArg
	}
	for i := range s.Gens {
		t = all(k+s.Gens-1-i, t)
	}
	return t, api.OK
}

func isStamp(n int) bool { return n >= 0 && n <= top }

func plainSum(l []api.Ctor) (api.TT, api.Errno) {
	out := sum()
	for _, c := range l {
		kid, ok := gunit(), true
		if len(c.Args) > 0 {
			kid, ok = plainType(c.Args[0], 0, 0)
		}
		if !ok || len(c.Args) > 1 {
			return api.TT{}, api.ErrArg
		}
		out.Kids = append(out.Kids, kid)
	}
	return out, api.OK
}

func plainRep(n int, l []api.Ctor) (api.TT, api.Errno) {
	t, code := plainSum(l)
	return told(mu(n, t), code == api.OK && isStamp(n))
}

func plainCon(n int, c api.Ctor) (api.TT, api.Errno) {
	if len(c.Args) == 0 {
		return told(v(n), isStamp(n))
	}
	t, ok := plainType(c.Args[0], 0, 0)
	return told(gfn(t, v(n)), ok && isStamp(n) && len(c.Args) == 1)
}

// labelsOf: those of a type.
func labelsOf(m api.TyMember) []string {
	var l []string
	for _, c := range m.Ctors {
		l = append(l, c.Name+"()")
	}
	if len(l) > 0 {
		l = append(l, "out "+m.Name)
	}
	return l
}

// row: a record that grows: each label where it belongs.
type row struct {
	labels []string
	kids   []api.TT
}

func (r *row) put(label string, t api.TT) {
	at := 0
	for at < len(r.labels) && r.labels[at] < label {
		at++
	}
	r.labels = slices.Insert(r.labels, at, label)
	r.kids = slices.Insert(r.kids, at, t)
}

// plainLabels: all labels of a structure, in the order of its fields.
func plainLabels(s api.Str) []string {
	var l []string
	for _, m := range s.Types {
		l = append(l, labelsOf(m)...)
	}
	for _, m := range s.Vals {
		l = append(l, m.Name)
	}
	for _, m := range s.Subs {
		l = append(l, m.Name)
	}
	for _, m := range s.Funs {
		l = append(l, m.Name)
	}
	return l
}

// plainData: puts the labels of a datatype into a row.
func (r *row) plainData(m api.TyMember) api.Errno {
	if t, ok := plainType(m.T, 0, 0); !ok || t.Kind != api.GVar {
		return api.ErrArg
	}
	for _, c := range m.Ctors {
		t, code := plainCon(m.T.N, c)
		if code != api.OK {
			return code
		}
		r.put(c.Name+"()", t)
	}
	t, code := plainSum(m.Ctors)
	r.put("out "+m.Name, gfn(v(m.T.N), t))
	return code
}

func plainStr(s api.Str) (api.TT, api.Errno) {
	labels := plainLabels(s)
	for i, label := range labels {
		if slices.Contains(labels[:i], label) {
			return api.TT{}, api.ErrTwice
		}
	}
	r := &row{}
	for _, m := range s.Types {
		if len(m.Ctors) == 0 {
			continue
		}
		if code := r.plainData(m); code != api.OK {
			return api.TT{}, code
		}
	}
	for _, m := range s.Vals {
		t, code := plainScheme(m.S)
		if code != api.OK {
			return api.TT{}, code
		}
		r.put(m.Name, t)
	}
	for _, m := range s.Subs {
		t, code := plainStr(m.S)
		if code != api.OK {
			return api.TT{}, code
		}
		r.put(m.Name, t)
	}
	for _, m := range s.Funs {
		t, code := plainFun(m.F)
		if code != api.OK {
			return api.TT{}, code
		}
		r.put(m.Name, t)
	}
	return rec(r.labels, r.kids...), api.OK
}

// plainBound: t within binders, if these may be.
func plainBound(kind int, stamps []int, t api.TT, code api.Errno) (api.TT, api.Errno) {
	for i, n := range stamps {
		if !isStamp(n) {
			return api.TT{}, api.ErrArg
		}
		if slices.Contains(stamps[:i], n) {
			return api.TT{}, api.ErrTwice
		}
	}
	if code != api.OK {
		return api.TT{}, code
	}
	if len(stamps) == 0 {
		return t, api.OK
	}
	within, _ := plainBound(kind, stamps[1:], t, api.OK)
	return tt(kind, stamps[0], within), api.OK
}

func plainAbs(a api.Abs) (api.TT, api.Errno) {
	t, code := plainStr(a.S)
	return plainBound(api.GEx, a.Stamps, t, code)
}

func plainFun(f api.Fun) (api.TT, api.Errno) {
	from, code := plainStr(f.Arg)
	to, then := plainAbs(f.Res)
	if code == api.OK {
		code = then
	}
	return plainBound(api.GAll, f.Stamps, gfn(from, to), code)
}
