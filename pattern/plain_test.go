package pattern_test

import (
	"slices"

	"wafer/api"
	"wafer/env"
	"wafer/pattern"
	"wafer/tree"
	"wafer/types"
	"wafer/unify"
)

// plainTyper: the types of patterns by the chapter's words, without a store: what stands in a constructor is held against the type of its Args, which is closed, and only what stands in none is open.
type plainTyper struct {
	e     env.Env
	metas int
	binds []pattern.Bind
}

func (o *plainTyper) open() api.Type {
	o.metas++
	return meta(o.metas)
}

// free: the type of a pattern of which nothing is asked.
func (o *plainTyper) free(p api.Pat) (api.Type, bool) {
	switch p.Kind {
	case api.PAny:
		return o.open(), true
	case api.PVar:
		t := o.open()
		o.binds = append(o.binds, pattern.Bind{Name: p.Name, T: t})
		return t, true
	case api.PInt:
		return integer(), true
	case api.PTrue, api.PFalse:
		return boolean(), true
	case api.PUnit:
		return unit(), true
	case api.PPair:
		a, ok := o.free(p.Kids[0])
		b, also := o.free(p.Kids[1])
		return pair(a, b), ok && also
	}
	c, _ := o.e.Con(p.Path)
	if len(c.Args) != len(p.Kids) {
		return c.T, false
	}
	return c.T, len(p.Kids) == 0 || o.has(p.Kids[0], c.Args[0])
}

// has: has a pattern that closed type?
func (o *plainTyper) has(p api.Pat, t api.Type) bool {
	switch p.Kind {
	case api.PAny:
		return true
	case api.PVar:
		o.binds = append(o.binds, pattern.Bind{Name: p.Name, T: t})
		return true
	case api.PPair:
		if t.Kind != api.TPair {
			return false
		}
		ok := o.has(p.Kids[0], t.Kids[0])
		return o.has(p.Kids[1], t.Kids[1]) && ok
	}
	own, ok := o.free(p)
	return ok && types.Same(own, t)
}

// binders: the names of a pattern from the left, each as often as it stands.
func binders(p api.Pat) []string {
	if p.Kind == api.PVar {
		return []string{p.Name}
	}
	var l []string
	for _, kid := range p.Kids {
		l = append(l, binders(kid)...)
	}
	return l
}

// heads: the paths of a pattern's constructors.
func heads(p api.Pat) [][]string {
	var l [][]string
	if p.Kind == api.PCon {
		l = append(l, p.Path)
	}
	for _, kid := range p.Kids {
		l = append(l, heads(kid)...)
	}
	return l
}

// plainCheck: Check by the chapter's words, told as answer tells it.
func plainCheck(p api.Pat, e env.Env) string {
	fails := func(err api.Errno) string { return answer(unify.New(), api.Type{}, nil, err) }
	if err := tree.RightPat(p); err != api.OK {
		return fails(err)
	}
	l := binders(p)
	for i, name := range l {
		if slices.Contains(l[:i], name) {
			return fails(api.ErrTwice)
		}
	}
	for _, path := range heads(p) {
		if _, err := e.Con(path); err != api.OK {
			return fails(api.ErrUnbound)
		}
	}
	o := plainTyper{e: e}
	t, ok := o.free(p)
	if !ok || !types.Fits(t) {
		return fails(api.ErrType)
	}
	return answer(unify.New(), t, o.binds, api.OK)
}

// kidsOf: how many Kids a pattern of a kind may have.
func kidsOf(kind int) []int {
	switch kind {
	case api.PPair:
		return []int{2}
	case api.PCon:
		return []int{0, 1}
	case api.PAny, api.PVar, api.PInt, api.PTrue, api.PFalse, api.PUnit:
		return []int{0}
	}
	return nil
}

// plainFits: does a pattern fit, by the chapter's words? Part by part: each answers what it binds.
func plainFits(p api.Pat, v api.Value) ([]string, []api.Value, bool) {
	if !slices.Contains(kidsOf(p.Kind), len(p.Kids)) {
		return nil, nil, false
	}
	fits := false
	switch p.Kind {
	case api.PAny:
		fits = true
	case api.PVar:
		return []string{p.Name}, []api.Value{v}, true
	case api.PInt:
		fits = v.Kind == api.VInt && v.N == p.N
	case api.PTrue:
		fits = v.Kind == api.VBool && v.N == 1
	case api.PFalse:
		fits = v.Kind == api.VBool && v.N == 0
	case api.PUnit:
		fits = v.Kind == api.VUnit
	case api.PPair:
		fits = v.Kind == api.VPair && len(v.Kids) == 2
	case api.PCon:
		fits = v.Kind == api.VCon && len(p.Path) > 0 && p.Path[len(p.Path)-1] == v.Name && len(v.Kids) == len(p.Kids)
	}
	if !fits {
		return nil, nil, false
	}
	var names []string
	var parts []api.Value
	for i, kid := range p.Kids {
		l, values, ok := plainFits(kid, v.Kids[i])
		if !ok {
			return nil, nil, false
		}
		names, parts = append(names, l...), append(parts, values...)
	}
	return names, parts, true
}
