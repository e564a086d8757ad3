package tree

import (
	"slices"

	"wafer/api"
)

// Same: are they the same declarations, wherever they stand in their texts?
func Same(a, b []api.Dec) bool { return slices.EqualFunc(a, b, sameDec) }

// SameExp: are they the same expression?
func SameExp(a, b api.Exp) bool {
	return a.Kind == b.Kind && a.Op == b.Op && a.N == b.N &&
		slices.Equal(a.Path, b.Path) &&
		slices.EqualFunc(a.Pats, b.Pats, SamePat) &&
		slices.EqualFunc(a.Kids, b.Kids, SameExp) &&
		slices.EqualFunc(a.Decs, b.Decs, sameDec) &&
		slices.EqualFunc(a.Tys, b.Tys, SameTy)
}

// SameMod: are they the same structure expression?
func SameMod(a, b api.Mod) bool {
	return a.Kind == b.Kind &&
		slices.Equal(a.Path, b.Path) &&
		slices.EqualFunc(a.Decs, b.Decs, sameDec) &&
		slices.EqualFunc(a.Mods, b.Mods, SameMod) &&
		slices.EqualFunc(a.Sigs, b.Sigs, SameSig)
}

// SameSig: are they the same signature expression?
func SameSig(a, b api.Sig) bool {
	return a.Kind == b.Kind &&
		slices.Equal(a.Path, b.Path) &&
		slices.EqualFunc(a.Specs, b.Specs, sameSpec) &&
		slices.EqualFunc(a.Sigs, b.Sigs, SameSig) &&
		slices.EqualFunc(a.Tys, b.Tys, SameTy)
}

// SamePat: are they the same pattern?
func SamePat(a, b api.Pat) bool {
	return a.Kind == b.Kind && a.Name == b.Name && a.N == b.N &&
		slices.Equal(a.Path, b.Path) &&
		slices.EqualFunc(a.Kids, b.Kids, SamePat)
}

// SameTy: are they the same type?
func SameTy(a, b api.Ty) bool {
	return a.Kind == b.Kind && a.Name == b.Name &&
		slices.Equal(a.Path, b.Path) &&
		slices.EqualFunc(a.Kids, b.Kids, SameTy)
}

func sameDec(a, b api.Dec) bool {
	return a.Kind == b.Kind && a.Name == b.Name &&
		slices.Equal(a.Params, b.Params) &&
		slices.EqualFunc(a.Tys, b.Tys, SameTy) &&
		slices.EqualFunc(a.Exps, b.Exps, SameExp) &&
		slices.EqualFunc(a.Cons, b.Cons, sameCon) &&
		slices.EqualFunc(a.Mods, b.Mods, SameMod) &&
		slices.EqualFunc(a.Sigs, b.Sigs, SameSig)
}

func sameCon(a, b api.Con) bool {
	return a.Name == b.Name && slices.EqualFunc(a.Tys, b.Tys, SameTy)
}

func sameSpec(a, b api.Spec) bool {
	return a.Kind == b.Kind && a.Name == b.Name &&
		slices.EqualFunc(a.Tys, b.Tys, SameTy) &&
		slices.EqualFunc(a.Cons, b.Cons, sameCon) &&
		slices.EqualFunc(a.Sigs, b.Sigs, SameSig)
}
