package print

import (
	"strconv"

	"wafer/api"
)

func (p *printer) number(n int64) { p.add(strconv.FormatInt(n, 10)) }

func tyLevel(t *api.Ty) int {
	switch t.Kind {
	case api.YFn:
		return 1
	case api.YPair:
		return 2
	}
	return 3
}

func (p *printer) tyAt(level int, t *api.Ty) { at(p, level, tyLevel(t), t, (*printer).ty) }

func (p *printer) ty(t *api.Ty) {
	switch t.Kind {
	case api.YVar:
		p.add("'", t.Name)
	case api.YCon:
		p.path(t.Path)
	case api.YFn:
		p.arrow(t)
	case api.YPair:
		p.product(t)
	}
}

func (p *printer) arrow(t *api.Ty) {
	p.tyAt(2, &t.Kids[0])
	p.add(" -> ")
	p.ty(&t.Kids[1])
}

func (p *printer) product(t *api.Ty) {
	p.tyAt(2, &t.Kids[0])
	p.add(" * ")
	p.tyAt(3, &t.Kids[1])
}

func patLevel(a *api.Pat) int {
	if a.Kind == api.PCon && len(a.Kids) > 0 {
		return 1
	}
	return 2
}

func (p *printer) pat(a *api.Pat) {
	switch a.Kind {
	case api.PAny:
		p.add("_")
	case api.PVar:
		p.add(a.Name)
	case api.PInt:
		p.number(a.N)
	case api.PTrue:
		p.add("true")
	case api.PFalse:
		p.add("false")
	case api.PUnit:
		p.add("()")
	case api.PPair:
		p.pairPat(a)
	case api.PCon:
		p.conPat(a)
	}
}

func (p *printer) pairPat(a *api.Pat) {
	p.add("(")
	between(p, a.Kids, ", ", (*printer).pat)
	p.add(")")
}

func (p *printer) conPat(a *api.Pat) {
	p.path(a.Path)
	for i := range a.Kids {
		p.add(" ")
		at(p, 2, patLevel(&a.Kids[i]), &a.Kids[i], (*printer).pat)
	}
}

func expLevel(e *api.Exp) int {
	switch e.Kind {
	case api.EFn, api.EIf:
		return 1
	case api.EBin:
		return opLevel(e.Op)
	case api.EApp:
		return 5
	}
	return 6
}

func opLevel(op int) int {
	switch op {
	case api.OEq, api.OLt:
		return 2
	case api.OAdd, api.OSub:
		return 3
	}
	return 4
}

func (p *printer) expAt(level int, e *api.Exp) { at(p, level, expLevel(e), e, (*printer).exp) }

func (p *printer) exp(e *api.Exp) {
	switch e.Kind {
	case api.EInt:
		p.number(e.N)
	case api.ETrue:
		p.add("true")
	case api.EFalse:
		p.add("false")
	case api.EUnit:
		p.add("()")
	case api.EVar, api.ECon:
		p.path(e.Path)
	case api.EFn:
		p.add("fn ")
		p.branch(&e.Pats[0], &e.Kids[0])
	case api.EApp:
		p.application(e)
	case api.EPair:
		p.pairExp(e)
	case api.ELet:
		p.letExp(e)
	case api.EIf:
		p.choice(e)
	case api.ECase:
		p.cases(e)
	case api.EBin:
		p.binary(e)
	case api.EAnn:
		p.annotated(e)
	}
}

// branch: a pattern and what stands behind its arrow.
func (p *printer) branch(a *api.Pat, e *api.Exp) {
	p.pat(a)
	p.add(" => ")
	p.exp(e)
}

func (p *printer) application(e *api.Exp) {
	p.expAt(5, &e.Kids[0])
	p.add(" ")
	p.expAt(6, &e.Kids[1])
}

func (p *printer) pairExp(e *api.Exp) {
	p.add("(")
	between(p, e.Kids, ", ", (*printer).exp)
	p.add(")")
}

func (p *printer) letExp(e *api.Exp) {
	p.add("let ")
	behind(p, e.Decs, " ", (*printer).dec)
	p.add("in ")
	p.exp(&e.Kids[0])
	p.add(" end")
}

func (p *printer) choice(e *api.Exp) {
	p.add("if ")
	p.exp(&e.Kids[0])
	p.add(" then ")
	p.exp(&e.Kids[1])
	p.add(" else ")
	p.exp(&e.Kids[2])
}

func (p *printer) cases(e *api.Exp) {
	p.add("case ")
	p.exp(&e.Kids[0])
	p.add(" of ")
	for i := range e.Pats {
		if i > 0 {
			p.add(" | ")
		}
		p.branch(&e.Pats[i], &e.Kids[i+1])
	}
	p.add(" end")
}

func (p *printer) binary(e *api.Exp) {
	own := opLevel(e.Op)
	// Operators are taken from the left, but those that compare do not go on with one of their own level.
	left := max(own, 3)
	p.expAt(left, &e.Kids[0])
	p.add(" ", sign(e.Op), " ")
	p.expAt(own+1, &e.Kids[1])
}

func sign(op int) string {
	switch op {
	case api.OAdd:
		return "+"
	case api.OSub:
		return "-"
	case api.OMul:
		return "*"
	case api.ODiv:
		return "/"
	case api.OEq:
		return "="
	}
	return "<"
}

func (p *printer) annotated(e *api.Exp) {
	p.add("(")
	p.exp(&e.Kids[0])
	p.add(" : ")
	p.ty(&e.Tys[0])
	p.add(")")
}
