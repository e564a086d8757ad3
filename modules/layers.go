package modules

import (
	"slices"

	"wafer/api"
	"wafer/env"
	"wafer/target"
	"wafer/trans"
)

// layer: lays something around a term: what is bound in it, or what is packed again.
type layer func(api.TM) api.TM

// laid: a term with layers around it, the last one innermost.
func laid(x api.TM, l []layer) api.TM {
	for i := len(l) - 1; i >= 0; i-- {
		x = l[i](x)
	}
	return x
}

func node(kind int, kids ...api.TM) api.TM { return api.TM{Kind: kind, Kids: kids} }

func variable(name string) api.TM { return api.TM{Kind: api.XVar, Name: name} }

func selected(label string, x api.TM) api.TM {
	return api.TM{Kind: api.XSel, Name: label, Kids: []api.TM{x}}
}

func lam(name string, t api.TT, x api.TM) api.TM {
	return api.TM{Kind: api.XLam, Name: name, Types: []api.TT{t}, Kids: []api.TM{x}}
}

// record: of what stands under each label.
func record(fields map[string]api.TM) api.TM {
	x := api.TM{Kind: api.XRec}
	for label := range fields {
		x.Labels = append(x.Labels, label)
	}
	slices.Sort(x.Labels)
	for _, label := range x.Labels {
		x.Kids = append(x.Kids, fields[label])
	}
	return x
}

// binds: binds a term.
func binds(name string, is api.TM) layer {
	return func(in api.TM) api.TM { return api.TM{Kind: api.XLet, Name: name, Kids: []api.TM{is, in}} }
}

// opens: binds the structure of a term that has the type of an Abs with these stamps, which are in scope there.
func opens(x api.TM, stamps []int, name string) []layer {
	if len(stamps) == 0 {
		return []layer{binds(name, x)}
	}
	l := make([]layer, len(stamps))
	for i, n := range stamps {
		packed := variable(name)
		if i == 0 {
			packed = x
		}
		l[i] = func(in api.TM) api.TM {
			return api.TM{Kind: api.XOpen, N: n, Name: name, Kids: []api.TM{packed, in}}
		}
	}
	return l
}

// packs: packs a term, so that it has the type of an Abs, of whose stamps the first ones hide these types. (The types of the packs share their lists, as far as they are one: each by itself, they would come to very much.)
func packs(a api.Abs, hidden []api.TT) []layer {
	whole, err := trans.Abs(a)
	if err != api.OK {
		return nil
	}
	l := make([]layer, len(hidden))
	for i, t := range hidden {
		own := []api.TT{t, whole}
		l[i] = func(x api.TM) api.TM { return api.TM{Kind: api.XPack, Types: own, Kids: []api.TM{x}} }
		within := whole.Kids[0]
		if t.Kind != api.GVar || t.N != whole.N {
			within = target.Put(within, whole.N, t)
		}
		whole = within
	}
	return l
}

// variables: stamps that are in scope, as they look in the target.
func variables(stamps []int) []api.TT {
	l := make([]api.TT, len(stamps))
	for i, n := range stamps {
		l[i] = api.TT{Kind: api.GVar, N: n}
	}
	return l
}

// inTarget: how types look in the target that trans takes.
func inTarget(l []api.Type) []api.TT {
	out := make([]api.TT, len(l))
	for i, t := range l {
		out[i], _ = trans.Type(t)
	}
	return out
}

// open: a term that takes any types in place of stamps.
func open(stamps []int, x api.TM) api.TM {
	for i := len(stamps) - 1; i >= 0; i-- {
		x = api.TM{Kind: api.XAll, N: stamps[i], Kids: []api.TM{x}}
	}
	return x
}

// with: such a term, with types.
func with(l []api.TT, x api.TM) api.TM {
	for _, t := range l {
		x = api.TM{Kind: api.XInst, Types: []api.TT{t}, Kids: []api.TM{x}}
	}
	return x
}

// standing: which of some stamps stand in a structure, in their order.
func standing(stamps []int, s *api.Str) []int {
	free := map[int]struct{}{}
	for _, n := range env.Free(api.Abs{S: *s}) {
		free[n] = struct{}{}
	}
	return slices.DeleteFunc(slices.Clone(stamps), func(n int) bool {
		_, stands := free[n]
		return !stands
	})
}
