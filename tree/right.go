package tree

import (
	"wafer/api"
	"wafer/names"
)

// shape: how much a node has in each of the fields that any sort of node has; a name that every node of its sort has is left out.
type shape struct {
	op           int
	n            int64
	name         string
	path, params int

	pats, kids, decs, tys, exps, cons, mods, sigs, specs int
}

// fit: gives up, unless a node has just what its kind allows: near is of all the shapes that are allowed the one that comes nearest to its own.
func (has shape) fit(near shape) {
	if has != near {
		panic(api.ErrArg)
	}
}

// caught: what a node gives up with, OK if it is right.
func caught[N any](node *N, right func(*N)) (e api.Errno) {
	defer func() {
		if r := recover(); r != nil {
			why, ok := r.(api.Errno)
			if !ok {
				panic(r)
			}
			e = why
		}
	}()
	right(node)
	return api.OK
}

// alone: the error of a node that stands in no other one, OK if it has none.
func alone[N any](node *N, count func(*meter, *N), right func(*N)) api.Errno {
	var m meter
	count(&m, node)
	if m.depth > api.MaxDepth {
		return api.ErrDeep
	}
	return caught(node, right)
}

// named: gives up, if a name is not of the sort that is asked for.
func named(s string, sort func(string) bool) {
	if sort(s) {
		return
	}
	// A type variable's name may be a reserved word: why it is no name is asked of those alone that are not of their sort.
	if e := names.Right(s); e != api.OK {
		panic(e)
	}
	panic(api.ErrName)
}

// pathed: gives up, if texts are no path whose last name is of the sort that is asked for.
func pathed(p []string, sort func(string) bool) {
	if e := names.Path(p); e != api.OK {
		panic(e)
	}
	named(p[len(p)-1], sort)
}

// given: is it the one word of a type that the language has by itself?
func given(p []string) bool {
	if len(p) != 1 {
		return false
	}
	switch p[0] {
	case "int", "bool", "unit":
		return true
	}
	return false
}

// rightTy: gives up, if a type is not right.
func rightTy(t *api.Ty) {
	has := shape{name: t.Name, path: len(t.Path), kids: len(t.Kids)}
	switch t.Kind {
	case api.YVar:
		has.fit(shape{name: has.name})
		named(t.Name, names.Tyvar)
	case api.YCon:
		has.fit(shape{path: has.path})
		if !given(t.Path) {
			pathed(t.Path, names.Lower)
		}
	case api.YFn, api.YPair:
		has.fit(shape{kids: 2})
	default:
		panic(api.ErrArg)
	}
	each(t.Kids, rightTy)
}

// rightPat: gives up, if a pattern is not right.
func rightPat(p *api.Pat) {
	has := shape{name: p.Name, path: len(p.Path), n: p.N, kids: len(p.Kids)}
	switch p.Kind {
	case api.PAny, api.PTrue, api.PFalse, api.PUnit:
		has.fit(shape{})
	case api.PVar:
		has.fit(shape{name: has.name})
		named(p.Name, names.Lower)
	case api.PInt:
		has.fit(shape{n: max(has.n, 0)})
	case api.PPair:
		has.fit(shape{kids: 2})
	case api.PCon:
		has.fit(shape{path: has.path, kids: min(has.kids, 1)})
		pathed(p.Path, names.Upper)
	default:
		panic(api.ErrArg)
	}
	each(p.Kids, rightPat)
}

// rightExp: gives up, if an expression is not right.
func rightExp(e *api.Exp) {
	ownExp(e)
	each(e.Pats, rightPat)
	each(e.Kids, rightExp)
	each(e.Decs, rightDec)
	each(e.Tys, rightTy)
}

// ownExp: gives up, if an expression is not right by itself, whatever its parts are.
func ownExp(e *api.Exp) {
	has := shape{op: e.Op, n: e.N, path: len(e.Path), pats: len(e.Pats), kids: len(e.Kids), decs: len(e.Decs), tys: len(e.Tys)}
	switch e.Kind {
	case api.EInt:
		has.fit(shape{n: max(has.n, 0)})
	case api.ETrue, api.EFalse, api.EUnit:
		has.fit(shape{})
	case api.EVar:
		has.fit(shape{path: has.path})
		pathed(e.Path, names.Lower)
	case api.ECon:
		has.fit(shape{path: has.path})
		pathed(e.Path, names.Upper)
	case api.EFn:
		has.fit(shape{pats: 1, kids: 1})
	case api.EApp, api.EPair:
		has.fit(shape{kids: 2})
	case api.ELet:
		has.fit(shape{decs: has.decs, kids: 1})
		each(e.Decs, inLet)
	case api.EIf:
		has.fit(shape{kids: 3})
	case api.ECase:
		has.fit(shape{pats: max(has.pats, 1), kids: has.pats + 1})
	case api.EBin:
		has.fit(shape{op: min(max(has.op, api.OAdd), api.OLt), kids: 2})
	case api.EAnn:
		has.fit(shape{kids: 1, tys: 1})
	default:
		panic(api.ErrArg)
	}
}

// inLet: gives up, if a declaration is none that an expression may have.
func inLet(d *api.Dec) {
	if d.Kind != api.DVal && d.Kind != api.DFun {
		panic(api.ErrArg)
	}
}

// rightDec: gives up, if a declaration is not right.
func rightDec(d *api.Dec) {
	ownDec(d)
	each(d.Tys, rightTy)
	each(d.Exps, rightExp)
	each(d.Cons, rightCon)
	each(d.Mods, rightMod)
	each(d.Sigs, rightSig)
}

// ownDec: gives up, if a declaration is not right by itself, whatever its parts are.
func ownDec(d *api.Dec) {
	has := shape{params: len(d.Params), tys: len(d.Tys), exps: len(d.Exps), cons: len(d.Cons), mods: len(d.Mods), sigs: len(d.Sigs)}
	sort := names.Lower
	switch d.Kind {
	case api.DVal:
		has.fit(shape{tys: min(has.tys, 1), exps: 1})
	case api.DFun:
		has.fit(shape{params: max(has.params, 1), tys: min(has.tys, 1), exps: 1})
	case api.DType:
		has.fit(shape{tys: 1})
	case api.DData:
		has.fit(shape{cons: max(has.cons, 1)})
	case api.DStr:
		has.fit(shape{mods: 1})
		sort = names.Upper
	case api.DSig:
		has.fit(shape{sigs: 1})
		sort = names.Upper
	case api.DFunctor:
		has.fit(shape{params: 1, mods: 1, sigs: 1})
		sort = names.Upper
	default:
		panic(api.ErrArg)
	}
	named(d.Name, sort)
	for _, name := range d.Params {
		named(name, sort)
	}
}

// rightCon: gives up, if a constructor is not right.
func rightCon(c *api.Con) {
	has := shape{tys: len(c.Tys)}
	has.fit(shape{tys: min(has.tys, 1)})
	named(c.Name, names.Upper)
	each(c.Tys, rightTy)
}

// rightMod: gives up, if a structure expression is not right.
func rightMod(m *api.Mod) {
	has := shape{path: len(m.Path), decs: len(m.Decs), mods: len(m.Mods), sigs: len(m.Sigs)}
	switch m.Kind {
	case api.MPath:
		has.fit(shape{path: has.path})
		pathed(m.Path, names.Upper)
	case api.MStruct:
		has.fit(shape{decs: has.decs})
	case api.MApp:
		has.fit(shape{path: has.path, mods: 1})
		pathed(m.Path, names.Upper)
	case api.MAsc, api.MSeal:
		has.fit(shape{mods: 1, sigs: 1})
	case api.MLet:
		has.fit(shape{decs: has.decs, mods: 1})
	default:
		panic(api.ErrArg)
	}
	each(m.Decs, rightDec)
	each(m.Mods, rightMod)
	each(m.Sigs, rightSig)
}

// rightSig: gives up, if a signature expression is not right.
func rightSig(s *api.Sig) {
	has := shape{path: len(s.Path), specs: len(s.Specs), sigs: len(s.Sigs), tys: len(s.Tys)}
	switch s.Kind {
	case api.SPath:
		has.fit(shape{path: has.path})
		pathed(s.Path, names.Upper)
	case api.SSig:
		has.fit(shape{specs: has.specs})
	case api.SWhere:
		has.fit(shape{path: has.path, sigs: 1, tys: 1})
		pathed(s.Path, names.Lower)
	default:
		panic(api.ErrArg)
	}
	each(s.Specs, rightSpec)
	each(s.Sigs, rightSig)
	each(s.Tys, rightTy)
}

// rightSpec: gives up, if a specification is not right.
func rightSpec(c *api.Spec) {
	has := shape{tys: len(c.Tys), cons: len(c.Cons), sigs: len(c.Sigs)}
	sort := names.Lower
	switch c.Kind {
	case api.CVal:
		has.fit(shape{tys: 1})
	case api.CType:
		has.fit(shape{tys: min(has.tys, 1)})
	case api.CData:
		has.fit(shape{cons: max(has.cons, 1)})
	case api.CStr:
		has.fit(shape{sigs: 1})
		sort = names.Upper
	default:
		panic(api.ErrArg)
	}
	named(c.Name, sort)
	each(c.Tys, rightTy)
	each(c.Cons, rightCon)
	each(c.Sigs, rightSig)
}
