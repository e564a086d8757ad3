package trans

import (
	"slices"

	"wafer/api"
	"wafer/names"
)

// field: a label of a structure, and what makes the type that stands under it. It is made later: that two labels are alike is told ahead of all else.
type field struct {
	label string
	made  func() (api.TT, api.Errno)
}

// gatherer: gathers the labels that a structure has in the target.
type gatherer struct {
	s      *api.Str
	fields []field
}

// gathered: the labels of a structure, in the order of its own fields. (Signatures have none.)
func gathered(s *api.Str) []field {
	g := gatherer{s: s}
	for _, gather := range [...]func(){g.types, g.vals, g.subs, g.funs} {
		gather()
	}
	return g.fields
}

func (g *gatherer) add(label string, made func() (api.TT, api.Errno)) {
	g.fields = append(g.fields, field{label, made})
}

// types: a type without Ctors leaves no trace in the target.
func (g *gatherer) types() {
	for i := range g.s.Types {
		m := &g.s.Types[i]
		if len(m.Ctors) == 0 {
			continue
		}
		// Its out comes first, since that asks whether the type is a stamp.
		g.add(names.Out(m.Name), func() (api.TT, api.Errno) { return out(m) })
		for _, c := range m.Ctors {
			g.add(names.Con(c.Name), func() (api.TT, api.Errno) { return Con(m.T.N, c) })
		}
	}
}

func (g *gatherer) vals() {
	for _, m := range g.s.Vals {
		g.add(m.Name, func() (api.TT, api.Errno) { return Scheme(m.S) })
	}
}

func (g *gatherer) subs() {
	for i := range g.s.Subs {
		m := &g.s.Subs[i]
		g.add(m.Name, func() (api.TT, api.Errno) { return record(&m.S) })
	}
}

func (g *gatherer) funs() {
	for i := range g.s.Funs {
		m := &g.s.Funs[i]
		g.add(m.Name, func() (api.TT, api.Errno) { return function(&m.F) })
	}
}

// record: what a structure becomes.
func record(s *api.Str) (api.TT, api.Errno) {
	fields := gathered(s)
	labels := inOrder(fields)
	if len(slices.Compact(labels)) < len(fields) {
		return api.TT{}, api.ErrTwice
	}
	kids := make([]api.TT, len(labels))
	for _, f := range fields {
		t, err := f.made()
		if err != api.OK {
			return api.TT{}, err
		}
		at, _ := slices.BinarySearchFunc(labels, f.label, names.Cmp)
		kids[at] = t
	}
	return api.TT{Kind: api.GRec, Labels: labels, Kids: kids}, api.OK
}

// inOrder: the labels of fields in the order of texts.
func inOrder(fields []field) []string {
	labels := make([]string, len(fields))
	for i, f := range fields {
		labels[i] = f.label
	}
	slices.SortFunc(labels, names.Cmp)
	return labels
}

// hidden: what an Abs becomes.
func hidden(a *api.Abs) (api.TT, api.Errno) {
	if err := mayBind(a.Stamps); err != api.OK {
		return api.TT{}, err
	}
	t, err := record(&a.S)
	if err != api.OK {
		return api.TT{}, err
	}
	return bound(api.GEx, a.Stamps, t), api.OK
}

// function: what a functor becomes.
func function(f *api.Fun) (api.TT, api.Errno) {
	if err := mayBind(f.Stamps); err != api.OK {
		return api.TT{}, err
	}
	from, err := record(&f.Arg)
	if err != api.OK {
		return api.TT{}, err
	}
	to, err := hidden(&f.Res)
	if err != api.OK {
		return api.TT{}, err
	}
	return bound(api.GAll, f.Stamps, both(api.GFn, from, to)), api.OK
}

// mayBind: OK, if one Abs or functor may bind these stamps; else what is wrong with the first one, from the outermost on: ErrArg, if it is no stamp; ErrTwice, if it is bound already.
func mayBind(stamps []int) api.Errno {
	seen := make(map[int]struct{}, len(stamps))
	for _, n := range stamps {
		if !fits(n) {
			return api.ErrArg
		}
		if _, again := seen[n]; again {
			return api.ErrTwice
		}
		seen[n] = struct{}{}
	}
	return api.OK
}

// bound: a type with a binder of a kind around it for each number, the outermost one for the first.
func bound(kind int, numbers []int, t api.TT) api.TT {
	for _, n := range slices.Backward(numbers) {
		t = binder(kind, n, t)
	}
	return t
}
