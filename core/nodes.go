package core

import "wafer/api"

// Names that terms bind beside those of the declaration, of which none begins with the mark.
const (
	argument = "$of"   // what patterns are tried on
	others   = "$else" // a function that goes on with the branches that come behind one
	unused   = "$"     // what that is applied to
)

func leaf(kind int) api.Type { return api.Type{Kind: kind} }

func both(kind int, a, b api.Type) api.Type {
	return api.Type{Kind: kind, Kids: []api.Type{a, b}}
}

func node(kind int, kids ...api.TM) api.TM { return api.TM{Kind: kind, Kids: kids} }

func variable(name string) api.TM { return api.TM{Kind: api.XVar, Name: name} }

func tick(m api.TM) api.TM { return node(api.XTick, m) }

func fail(t api.TT) api.TM { return api.TM{Kind: api.XFail, Types: []api.TT{t}} }

func lam(name string, t api.TT, m api.TM) api.TM {
	return api.TM{Kind: api.XLam, Name: name, Types: []api.TT{t}, Kids: []api.TM{m}}
}

func let(name string, is, in api.TM) api.TM {
	return api.TM{Kind: api.XLet, Name: name, Kids: []api.TM{is, in}}
}
