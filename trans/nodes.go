package trans

import (
	"math"
	"slices"

	"wafer/api"
	"wafer/types"
)

// maxStamp: the greatest number that a stamp may have.
const maxStamp = math.MaxInt32

// fits: may a stamp have that number?
func fits(stamp int) bool { return stamp >= 0 && stamp <= maxStamp }

// greatest: the greatest stamp in a type, -1 if it has none.
func greatest(t api.Type) int { return slices.Max(append(types.Stamps(t), -1)) }

func leaf(kind int) api.TT { return api.TT{Kind: kind} }

func variable(n int) api.TT { return api.TT{Kind: api.GVar, N: n} }

func both(kind int, a, b api.TT) api.TT { return api.TT{Kind: kind, Kids: []api.TT{a, b}} }

func binder(kind, n int, t api.TT) api.TT {
	return api.TT{Kind: kind, N: n, Kids: []api.TT{t}}
}

// turned: what a right type without TMeta becomes; TGen i is the variable first + i.
func turned(t api.Type, first int) api.TT {
	switch t.Kind {
	case api.TInt:
		return leaf(api.GInt)
	case api.TBool:
		return leaf(api.GBool)
	case api.TUnit:
		return leaf(api.GUnit)
	case api.TStamp:
		return variable(t.N)
	case api.TGen:
		return variable(first + t.N)
	}
	kind := api.GFn
	if t.Kind == api.TPair {
		kind = api.GPair
	}
	left := turned(t.Kids[0], first)
	return both(kind, left, turned(t.Kids[1], first))
}

// argument: what the argument of a constructor becomes, GUnit if it has none.
func argument(c api.Ctor) (api.TT, api.Errno) {
	switch len(c.Args) {
	case 0:
		return leaf(api.GUnit), api.OK
	case 1:
		return Type(c.Args[0])
	}
	return api.TT{}, api.ErrArg
}

// out: the type of what a datatype is taken apart with; ErrArg, if it is no stamp.
func out(m *api.TyMember) (api.TT, api.Errno) {
	if m.T.Kind != api.TStamp {
		return api.TT{}, api.ErrArg
	}
	whole, err := Type(m.T)
	if err != api.OK {
		return api.TT{}, err
	}
	sum, err := Sum(m.Ctors)
	if err != api.OK {
		return api.TT{}, err
	}
	return both(api.GFn, whole, sum), api.OK
}
