package print

import "wafer/api"

// Structure and signature expressions have levels too, but none of them is a part at a level above 1: they stand in no parentheses.

func (p *printer) unit(l []api.Dec) { behind(p, l, "\n", (*printer).dec) }

func (p *printer) dec(d *api.Dec) {
	switch d.Kind {
	case api.DVal:
		p.value("val ", d)
	case api.DFun:
		p.value("fun ", d)
	case api.DType:
		p.typed("type ", d.Name, " = ", d.Tys)
	case api.DData:
		p.data(d.Name, d.Cons)
	case api.DStr:
		p.structure(d)
	case api.DSig:
		p.signature(d)
	case api.DFunctor:
		p.functor(d)
	}
}

// value: a val, which has no parameters, or a fun.
func (p *printer) value(word string, d *api.Dec) {
	p.add(word, d.Name)
	for _, name := range d.Params {
		p.add(" ", name)
	}
	p.tyBehind(" : ", d.Tys)
	p.add(" = ")
	p.exp(&d.Exps[0])
}

// tyBehind: a type behind a mark, if there is one.
func (p *printer) tyBehind(mark string, tys []api.Ty) {
	for i := range tys {
		p.add(mark)
		p.ty(&tys[i])
	}
}

// typed: a name, and its type behind a mark, if it has one.
func (p *printer) typed(word, name, mark string, tys []api.Ty) {
	p.add(word, name)
	p.tyBehind(mark, tys)
}

func (p *printer) data(name string, cons []api.Con) {
	p.add("data ", name, " = ")
	between(p, cons, " | ", (*printer).con)
}

func (p *printer) con(c *api.Con) { p.typed("", c.Name, " of ", c.Tys) }

func (p *printer) structure(d *api.Dec) {
	p.add("structure ", d.Name, " = ")
	p.mod(&d.Mods[0])
}

func (p *printer) signature(d *api.Dec) {
	p.add("signature ", d.Name, " = ")
	p.sig(&d.Sigs[0])
}

func (p *printer) functor(d *api.Dec) {
	p.add("functor ", d.Name, "(", d.Params[0], " : ")
	p.sig(&d.Sigs[0])
	p.add(") = ")
	p.mod(&d.Mods[0])
}

func (p *printer) mod(m *api.Mod) {
	switch m.Kind {
	case api.MPath:
		p.path(m.Path)
	case api.MStruct:
		p.structMod(m)
	case api.MApp:
		p.argument(m)
	case api.MAsc:
		p.ascribed(m, " : ")
	case api.MSeal:
		p.ascribed(m, " :> ")
	case api.MLet:
		p.letMod(m)
	}
}

func (p *printer) structMod(m *api.Mod) {
	p.add("struct ")
	behind(p, m.Decs, " ", (*printer).dec)
	p.add("end")
}

func (p *printer) argument(m *api.Mod) {
	p.path(m.Path)
	p.add("(")
	p.mod(&m.Mods[0])
	p.add(")")
}

func (p *printer) ascribed(m *api.Mod, mark string) {
	p.mod(&m.Mods[0])
	p.add(mark)
	p.sig(&m.Sigs[0])
}

func (p *printer) letMod(m *api.Mod) {
	p.add("let ")
	behind(p, m.Decs, " ", (*printer).dec)
	p.add("in ")
	p.mod(&m.Mods[0])
	p.add(" end")
}

func (p *printer) sig(s *api.Sig) {
	switch s.Kind {
	case api.SPath:
		p.path(s.Path)
	case api.SSig:
		p.sigSig(s)
	case api.SWhere:
		p.where(s)
	}
}

func (p *printer) sigSig(s *api.Sig) {
	p.add("sig ")
	behind(p, s.Specs, " ", (*printer).spec)
	p.add("end")
}

func (p *printer) where(s *api.Sig) {
	p.sig(&s.Sigs[0])
	p.add(" where type ")
	p.path(s.Path)
	p.add(" = ")
	p.ty(&s.Tys[0])
}

func (p *printer) spec(c *api.Spec) {
	switch c.Kind {
	case api.CVal:
		p.typed("val ", c.Name, " : ", c.Tys)
	case api.CType:
		p.typed("type ", c.Name, " = ", c.Tys)
	case api.CData:
		p.data(c.Name, c.Cons)
	case api.CStr:
		p.substructure(c)
	}
}

func (p *printer) substructure(c *api.Spec) {
	p.add("structure ", c.Name, " : ")
	p.sig(&c.Sigs[0])
}
