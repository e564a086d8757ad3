package parsecore

import (
	"slices"

	"wafer/api"
	"wafer/lex"
)

func (r *Reader) lowPath() []string {
	names, _ := r.path(lex.Lower)
	return names
}

func (r *Reader) highPath() []string {
	names, _ := r.path(lex.Upper)
	return names
}

// path: all names of a path, and the kind of its last one, which is one of those that are asked for.
func (r *Reader) path(last ...int) ([]string, int) {
	first := r.place()
	var names []string
	for {
		t, _ := r.Next()
		ends := slices.Contains(last, t.Kind)
		if t.Kind != lex.Upper && !ends {
			r.giveUp()
		}
		r.step()
		names = append(names, t.Text)
		// Told ahead of whatever stands behind: its place is the lesser one.
		if len(names) > api.MaxPath {
			panic(fault{first, api.ErrBig})
		}
		switch {
		case t.Kind == lex.Upper && r.Take("."):
		case ends:
			return names, t.Kind
		default:
			r.giveUp()
		}
	}
}

// ty: a type; of several `->` the last one binds first.
func (r *Reader) ty() api.Ty {
	from := r.pairTy()
	if !r.Take("->") {
		return from
	}
	return api.Ty{Kind: api.YFn, Kids: []api.Ty{from, r.ty()}}
}

func (r *Reader) pairTy() api.Ty {
	left := r.atomTy()
	for r.Take("*") {
		left = api.Ty{Kind: api.YPair, Kids: []api.Ty{left, r.atomTy()}}
	}
	return left
}

func (r *Reader) atomTy() api.Ty {
	t, _ := r.Next()
	switch {
	case t.Kind == lex.Tyvar:
		r.step()
		return api.Ty{Kind: api.YVar, Name: t.Text[1:]}
	case r.Take("int"), r.Take("bool"), r.Take("unit"):
		return api.Ty{Kind: api.YCon, Path: []string{t.Text}}
	case r.Take("("):
		inner := r.ty()
		r.need(")")
		return inner
	}
	return api.Ty{Kind: api.YCon, Path: r.lowPath()}
}

// pat: a pattern; a constructor may have an argument, unless it is one itself or stands in parentheses.
func (r *Reader) pat() api.Pat {
	if t, _ := r.Next(); t.Kind == lex.Upper {
		con := api.Pat{Kind: api.PCon, Path: r.highPath()}
		if arg, ok := r.atomPat(); ok {
			con.Kids = []api.Pat{arg}
		}
		return con
	}
	p, ok := r.atomPat()
	if !ok {
		r.giveUp()
	}
	return p
}

// atomPat: a pattern that may be a constructor's argument; false, and nothing is taken, if none begins here.
func (r *Reader) atomPat() (api.Pat, bool) {
	t, _ := r.Next()
	switch {
	case t.Kind == lex.Lower:
		r.step()
		return api.Pat{Kind: api.PVar, Name: t.Text}, true
	case t.Kind == lex.Int:
		r.step()
		return api.Pat{Kind: api.PInt, N: t.N}, true
	case t.Kind == lex.Upper:
		return api.Pat{Kind: api.PCon, Path: r.highPath()}, true
	case r.Take("_"):
		return api.Pat{Kind: api.PAny}, true
	case r.Take("true"):
		return api.Pat{Kind: api.PTrue}, true
	case r.Take("false"):
		return api.Pat{Kind: api.PFalse}, true
	case r.Take("("):
		return r.restPat(), true
	}
	return api.Pat{}, false
}

// restPat: what an open parenthesis begins in a pattern.
func (r *Reader) restPat() api.Pat {
	if r.Take(")") {
		return api.Pat{Kind: api.PUnit}
	}
	p := r.pat()
	if r.Take(",") {
		p = api.Pat{Kind: api.PPair, Kids: []api.Pat{p, r.pat()}}
	}
	r.need(")")
	return p
}

// exp: an expression.
func (r *Reader) exp() api.Exp {
	switch {
	case r.Take("fn"):
		p := r.pat()
		r.need("=>")
		return api.Exp{Kind: api.EFn, Pats: []api.Pat{p}, Kids: []api.Exp{r.exp()}}
	case r.Take("if"):
		asked := r.exp()
		r.need("then")
		yes := r.exp()
		r.need("else")
		return api.Exp{Kind: api.EIf, Kids: []api.Exp{asked, yes, r.exp()}}
	}
	return r.compared()
}

// compared: unlike the other operators, `=` and `<` do not go on with another one.
func (r *Reader) compared() api.Exp {
	left := r.sum()
	if op := r.operator("=", "<"); op != 0 {
		return binary(op, left, r.sum())
	}
	return left
}

func (r *Reader) sum() api.Exp { return r.chain((*Reader).product, "+", "-") }

func (r *Reader) product() api.Exp { return r.chain((*Reader).application, "*", "/") }

// chain: parts with operators of one level between them, taken from the left.
func (r *Reader) chain(part func(*Reader) api.Exp, level ...string) api.Exp {
	left := part(r)
	for {
		op := r.operator(level...)
		if op == 0 {
			return left
		}
		left = binary(op, left, part(r))
	}
}

func binary(op int, left, right api.Exp) api.Exp {
	return api.Exp{Kind: api.EBin, Op: op, Kids: []api.Exp{left, right}}
}

// operator: takes one of these operators, if one stands next; else 0.
func (r *Reader) operator(level ...string) int {
	if !slices.ContainsFunc(level, r.Is) {
		return 0
	}
	t, _ := r.Next()
	r.step()
	switch t.Text {
	case "+":
		return api.OAdd
	case "-":
		return api.OSub
	case "*":
		return api.OMul
	case "/":
		return api.ODiv
	case "=":
		return api.OEq
	}
	return api.OLt
}

func (r *Reader) application() api.Exp {
	left, ok := r.atom()
	if !ok {
		r.giveUp()
	}
	for {
		arg, ok := r.atom()
		if !ok {
			return left
		}
		left = api.Exp{Kind: api.EApp, Kids: []api.Exp{left, arg}}
	}
}

// atom: an expression that may be an argument; false, and nothing is taken, if none begins here.
func (r *Reader) atom() (api.Exp, bool) {
	t, _ := r.Next()
	switch {
	case t.Kind == lex.Int:
		r.step()
		return api.Exp{Kind: api.EInt, N: t.N}, true
	case t.Kind == lex.Lower, t.Kind == lex.Upper:
		return r.pathExp(), true
	case r.Take("true"):
		return api.Exp{Kind: api.ETrue}, true
	case r.Take("false"):
		return api.Exp{Kind: api.EFalse}, true
	case r.Take("("):
		return r.restExp(), true
	case r.Take("let"):
		return r.restLet(), true
	case r.Take("case"):
		return r.restCase(), true
	}
	return api.Exp{}, false
}

func (r *Reader) pathExp() api.Exp {
	names, kind := r.path(lex.Lower, lex.Upper)
	if kind == lex.Lower {
		return api.Exp{Kind: api.EVar, Path: names}
	}
	return api.Exp{Kind: api.ECon, Path: names}
}

// restExp: what an open parenthesis begins in an expression.
func (r *Reader) restExp() api.Exp {
	if r.Take(")") {
		return api.Exp{Kind: api.EUnit}
	}
	e := r.exp()
	switch {
	case r.Take(","):
		e = api.Exp{Kind: api.EPair, Kids: []api.Exp{e, r.exp()}}
	case r.Take(":"):
		e = api.Exp{Kind: api.EAnn, Kids: []api.Exp{e}, Tys: []api.Ty{r.ty()}}
	}
	r.need(")")
	return e
}

// restLet: what stands behind a `let`.
func (r *Reader) restLet() api.Exp {
	e := api.Exp{Kind: api.ELet}
	for r.Is("val") || r.Is("fun") {
		e.Decs = append(e.Decs, r.dec())
	}
	r.need("in")
	e.Kids = []api.Exp{r.exp()}
	r.need("end")
	return e
}

// restCase: what stands behind a `case`.
func (r *Reader) restCase() api.Exp {
	e := api.Exp{Kind: api.ECase, Kids: []api.Exp{r.exp()}}
	r.need("of")
	r.Take("|")
	for more := true; more; more = r.Take("|") {
		e.Pats = append(e.Pats, r.pat())
		r.need("=>")
		e.Kids = append(e.Kids, r.exp())
	}
	r.need("end")
	return e
}

// dec: a `val` or a `fun`.
func (r *Reader) dec() api.Dec {
	d := api.Dec{Kind: api.DVal, At: r.place()}
	if r.Take("fun") {
		d.Kind = api.DFun
		d.Name = r.low()
		d.Params = r.params()
	} else {
		r.need("val")
		d.Name = r.low()
	}
	if r.Take(":") {
		d.Tys = []api.Ty{r.ty()}
	}
	r.need("=")
	d.Exps = []api.Exp{r.exp()}
	return d
}

// params: one low name or more.
func (r *Reader) params() []string {
	l := []string{r.low()}
	for {
		t, _ := r.Next()
		if t.Kind != lex.Lower {
			return l
		}
		r.step()
		l = append(l, t.Text)
	}
}
