package env

import (
	"slices"

	"wafer/api"
	"wafer/types"
)

func sameAbs(a, b api.Abs) bool {
	return slices.Equal(a.Stamps, b.Stamps) && sameStr(a.S, b.S)
}

func sameStr(a, b api.Str) bool {
	return slices.EqualFunc(a.Types, b.Types, sameTyMember) &&
		slices.EqualFunc(a.Vals, b.Vals, sameValMember) &&
		slices.EqualFunc(a.Subs, b.Subs, sameSubMember) &&
		slices.EqualFunc(a.Funs, b.Funs, sameFunMember) &&
		slices.EqualFunc(a.Sigs, b.Sigs, sameSigMember)
}

func sameTyMember(a, b api.TyMember) bool {
	return a.Name == b.Name && types.Same(a.T, b.T) && slices.EqualFunc(a.Ctors, b.Ctors, sameCtor)
}

func sameCtor(a, b api.Ctor) bool {
	return a.Name == b.Name && slices.EqualFunc(a.Args, b.Args, types.Same)
}

func sameValMember(a, b api.ValMember) bool {
	return a.Name == b.Name && types.SameScheme(a.S, b.S)
}

func sameSubMember(a, b api.SubMember) bool { return a.Name == b.Name && sameStr(a.S, b.S) }

func sameFunMember(a, b api.FunMember) bool {
	return a.Name == b.Name && slices.Equal(a.F.Stamps, b.F.Stamps) && sameStr(a.F.Arg, b.F.Arg) && sameAbs(a.F.Res, b.F.Res)
}

func sameSigMember(a, b api.SigMember) bool { return a.Name == b.Name && sameAbs(a.A, b.A) }
