package parsemod_test

import (
	"fmt"
	"math/rand"
	"reflect"
	"slices"
	"strings"

	"wafer/api"
	"wafer/lex"
	"wafer/parsecore"
	"wafer/print"
)

// Short texts of nodes: each stands in brackets behind its kind, declarations and specifications with their places; types and expressions stand in braces, as print writes them.

func showAll[N any](l []N, show func(N) string) string {
	var b strings.Builder
	for _, n := range l {
		b.WriteString(" " + show(n))
	}
	return b.String()
}

func braces(s string, e api.Errno) string {
	if e != api.OK {
		return fmt.Sprint("{", e, "}")
	}
	return "{" + s + "}"
}

func showTy(t api.Ty) string { return braces(print.Ty(t)) }

func showExp(e api.Exp) string { return braces(print.Exp(e)) }

func named(by map[int]string, kind int) string {
	if s, ok := by[kind]; ok {
		return s
	}
	return fmt.Sprint("?", kind)
}

func showCon(c api.Con) string { return c.Name + strings.TrimSpace(showAll(c.Tys, showTy)) }

func showDec(d api.Dec) string {
	kind := named(map[int]string{
		api.DVal: "val", api.DFun: "fun", api.DType: "type", api.DData: "data", api.DStr: "structure", api.DSig: "signature", api.DFunctor: "functor",
	}, d.Kind)
	s := fmt.Sprint("[", kind, ":", d.At) + showAll(append([]string{d.Name}, d.Params...), strings.Clone)
	return s + showAll(d.Tys, showTy) + showAll(d.Exps, showExp) + showAll(d.Cons, showCon) + showAll(d.Sigs, showSig) + showAll(d.Mods, showMod) + "]"
}

func showMod(m api.Mod) string {
	kind := named(map[int]string{api.MPath: "", api.MStruct: "struct", api.MApp: "@", api.MAsc: ":", api.MSeal: ":>", api.MLet: "let"}, m.Kind)
	s := kind + strings.Join(m.Path, ".") + showAll(m.Decs, showDec) + showAll(m.Mods, showMod) + showAll(m.Sigs, showSig)
	if m.Kind == api.MPath {
		return s
	}
	return "[" + s + "]"
}

func showSig(g api.Sig) string {
	kind := named(map[int]string{api.SPath: "", api.SSig: "sig", api.SWhere: "where "}, g.Kind)
	s := kind + strings.Join(g.Path, ".") + showAll(g.Specs, showSpec) + showAll(g.Sigs, showSig) + showAll(g.Tys, showTy)
	if g.Kind == api.SPath {
		return s
	}
	return "[" + s + "]"
}

func showSpec(c api.Spec) string {
	kind := named(map[int]string{api.CVal: "val", api.CType: "type", api.CData: "data", api.CStr: "structure"}, c.Kind)
	return fmt.Sprint("[", kind, ":", c.At, " ", c.Name) + showAll(c.Tys, showTy) + showAll(c.Cons, showCon) + showAll(c.Sigs, showSig) + "]"
}

// shown: any of the nodes that the calls answer.
func shown(node any) string {
	switch n := node.(type) {
	case []api.Dec:
		return strings.TrimPrefix(showAll(n, showDec), " ")
	case api.Mod:
		return showMod(n)
	case api.Sig:
		return showSig(n)
	case api.Dec:
		return showDec(n)
	}
	return fmt.Sprintf("%+v", node)
}

// alike: are they alike all through, places too, a nil list and an empty one the same?
func alike(a, b any) bool { return fmt.Sprintf("%+v", a) == fmt.Sprintf("%+v", b) }

// eachStruct: does something with each struct in plain data, from the outside in; with the one, too, in which it stands.
func eachStruct(v, outer reflect.Value, do func(v, outer reflect.Value)) {
	switch v.Kind() {
	case reflect.Pointer:
		eachStruct(v.Elem(), outer, do)
	case reflect.Struct:
		do(v, outer)
		for i := range v.NumField() {
			eachStruct(v.Field(i), v, do)
		}
	case reflect.Slice:
		for i := range v.Len() {
			eachStruct(v.Index(i), outer, do)
		}
	}
}

// replace: what is handed in, by a pointer, with other places.
func replace(node any, place func(int) int) {
	eachStruct(reflect.ValueOf(node), reflect.Value{}, func(v, _ reflect.Value) {
		if at := v.FieldByName("At"); at.IsValid() {
			at.SetInt(int64(place(int(at.Int()))))
		}
	})
}

// grower: makes random nodes and writes them as tokens by the chapter's grammar as it goes; the places of declarations and specifications are the numbers of their first tokens.
type grower struct {
	rand   *rand.Rand
	tokens []string
}

func (g *grower) add(texts ...string) { g.tokens = append(g.tokens, texts...) }

// chance: true once in n times.
func (g *grower) chance(n int) bool { return g.rand.Intn(n) == 0 }

func (g *grower) pick(l ...string) string { return l[g.rand.Intn(len(l))] }

func (g *grower) word(s string) int {
	g.add(s)
	return len(g.tokens) - 1
}

func (g *grower) name(l ...string) string {
	s := g.pick(l...)
	g.add(s)
	return s
}

func (g *grower) low() string { return g.name("x", "t", "f", "x1", "a_B", "structures") }

func (g *grower) high() string { return g.name("A", "M", "S", "Nil", "B_2", "Structure") }

// path: the names of a path, whose last one is made by last.
func (g *grower) path(last func() string) []string {
	var p []string
	for range g.rand.Intn(2) * g.rand.Intn(api.MaxPath) {
		p = append(p, g.high())
		g.add(".")
	}
	return append(p, last())
}

// core: what layer 5 reads out of a text, with its places as numbers of tokens, behind those that are there.
func core[N any](g *grower, read func(string) (N, int, api.Errno), texts ...string) N {
	s := g.pick(texts...)
	tokens, _, _ := lex.Lex(s)
	node, _, e := read(s)
	if e != api.OK {
		panic(s)
	}
	first := len(g.tokens)
	replace(&node, func(at int) int {
		return first + slices.IndexFunc(tokens, func(t lex.Token) bool { return t.At == at })
	})
	for _, t := range tokens {
		g.add(t.Text)
	}
	return node
}

func (g *grower) ty() api.Ty {
	return core(g, parsecore.Ty, "int", "bool", "unit", "'a", "t", "M.t", "'type -> K.L.t", "(int -> t) * (A.B.u -> unit * t)", "(A.B.C.D.E.F.G.t)")
}

func (g *grower) exp() api.Exp {
	return core(g, parsecore.Exp, "1", "()", "x", "A", "M.x", "M.N.A", "fn (x, M.A y) => x", "f x + 1", "(x : L.t)", "if a = b then f (A, 1) else K.y",
		"let val x = 1 fun f y = M.x in f end", "let val x = let fun g y : 'a = y in g end val z = x in x end", "let in x end", "case x of M.A => 1 | B y => y end")
}

func (g *grower) decs(levels int) []api.Dec {
	var l []api.Dec
	for range g.rand.Intn(4) {
		l = append(l, g.dec(levels))
	}
	return l
}

func (g *grower) dec(levels int) api.Dec {
	d := api.Dec{Kind: api.DVal + g.rand.Intn(api.DFunctor)}
	if levels <= 1 {
		d.Kind = api.DVal + g.rand.Intn(api.DData)
	}
	d.At = g.word([]string{"", "val", "fun", "type", "data", "structure", "signature", "functor"}[d.Kind])
	switch d.Kind {
	case api.DVal, api.DFun:
		d.Name = g.low()
		if d.Kind == api.DFun {
			for range 1 + g.rand.Intn(3) {
				d.Params = append(d.Params, g.low())
			}
		}
		if g.chance(2) {
			g.add(":")
			d.Tys = []api.Ty{g.ty()}
		}
		g.add("=")
		d.Exps = []api.Exp{g.exp()}
	case api.DType:
		d.Name = g.low()
		g.add("=")
		d.Tys = []api.Ty{g.ty()}
	case api.DData:
		d.Name = g.low()
		g.add("=")
		d.Cons = g.cons()
	case api.DStr:
		d.Name = g.high()
		d.Mods = []api.Mod{g.body(levels - 1)}
	case api.DSig:
		d.Name = g.high()
		g.add("=")
		d.Sigs = []api.Sig{g.sig(levels - 1)}
	case api.DFunctor:
		d.Name = g.high()
		g.add("(")
		d.Params = []string{g.high()}
		g.add(":")
		d.Sigs = []api.Sig{g.sig(levels - 1)}
		g.add(")")
		d.Mods = []api.Mod{g.body(levels - 1)}
	}
	return d
}

func (g *grower) cons() []api.Con {
	if g.chance(2) {
		g.add("|")
	}
	l := []api.Con{g.con()}
	for range g.rand.Intn(3) {
		g.add("|")
		l = append(l, g.con())
	}
	return l
}

func (g *grower) con() api.Con {
	c := api.Con{Name: g.high()}
	if g.chance(2) {
		g.add("of")
		c.Tys = []api.Ty{g.ty()}
	}
	return c
}

// seal: a seal without what it is laid around.
func (g *grower) seal(levels int) api.Mod {
	m := api.Mod{Kind: api.MAsc}
	if g.chance(2) {
		m.Kind = api.MSeal
	}
	g.add(map[int]string{api.MAsc: ":", api.MSeal: ":>"}[m.Kind])
	m.Sigs = []api.Sig{g.sig(levels)}
	return m
}

// body: a seal or none, `=` and a structure expression.
func (g *grower) body(levels int) api.Mod {
	if !g.chance(3) {
		g.add("=")
		return g.mod(levels)
	}
	m := g.seal(levels - 1)
	g.add("=")
	m.Mods = []api.Mod{g.mod(levels - 1)}
	return m
}

func (g *grower) mod(levels int) api.Mod {
	m := g.atom(levels)
	for range max(g.rand.Intn(5)-2, 0) {
		around := g.seal(levels - 1)
		around.Mods = []api.Mod{m}
		m = around
	}
	return m
}

func (g *grower) atom(levels int) (m api.Mod) {
	if g.chance(6) {
		g.add("(")
		m = g.mod(levels)
		g.add(")")
		return m
	}
	m.Kind = []int{api.MPath, api.MStruct, api.MApp, api.MLet}[g.rand.Intn(4)]
	if levels <= 1 {
		m.Kind = api.MPath
	}
	switch m.Kind {
	case api.MPath:
		m.Path = g.path(g.high)
	case api.MStruct:
		g.add("struct")
		m.Decs = g.decs(levels - 1)
		g.add("end")
	case api.MApp:
		m.Path = g.path(g.high)
		g.add("(")
		m.Mods = []api.Mod{g.mod(levels - 1)}
		g.add(")")
	case api.MLet:
		g.add("let")
		m.Decs = g.decs(levels - 1)
		g.add("in")
		m.Mods = []api.Mod{g.mod(levels - 1)}
		g.add("end")
	}
	return m
}

func (g *grower) sig(levels int) api.Sig {
	s := api.Sig{Kind: api.SPath}
	if levels > 1 && g.chance(2) {
		s.Kind = api.SSig
		g.add("sig")
		for range g.rand.Intn(4) {
			s.Specs = append(s.Specs, g.spec(levels-1))
		}
		g.add("end")
	} else {
		s.Path = g.path(g.high)
	}
	for range max(g.rand.Intn(5)-2, 0) {
		w := api.Sig{Kind: api.SWhere, Sigs: []api.Sig{s}}
		g.add("where", "type")
		w.Path = g.path(g.low)
		g.add("=")
		w.Tys = []api.Ty{g.ty()}
		s = w
	}
	return s
}

func (g *grower) spec(levels int) api.Spec {
	c := api.Spec{Kind: api.CVal + g.rand.Intn(api.CStr)}
	c.At = g.word([]string{"", "val", "type", "data", "structure"}[c.Kind])
	switch c.Kind {
	case api.CVal:
		c.Name = g.low()
		g.add(":")
		c.Tys = []api.Ty{g.ty()}
	case api.CType:
		c.Name = g.low()
		if g.chance(2) {
			g.add("=")
			c.Tys = []api.Ty{g.ty()}
		}
	case api.CData:
		c.Name = g.low()
		g.add("=")
		c.Cons = g.cons()
	case api.CStr:
		c.Name = g.high()
		g.add(":")
		c.Sigs = []api.Sig{g.sig(levels - 1)}
	}
	return c
}

// grow: a random node of a rule, of a few levels, and its tokens.
func grow(r *rand.Rand, rule string, levels int) (any, []string) {
	g := &grower{rand: r}
	switch rule {
	case "unit":
		l := g.decs(levels)
		return l, g.tokens
	case "mod":
		m := g.mod(levels)
		return m, g.tokens
	case "sig":
		s := g.sig(levels)
		return s, g.tokens
	}
	d := g.dec(levels)
	return d, g.tokens
}

// placed: a node with other places, written into the lists of the one that is handed in.
func placed(node any, place func(int) int) any {
	v := reflect.New(reflect.TypeOf(node))
	v.Elem().Set(reflect.ValueOf(node))
	replace(v.Interface(), place)
	return v.Elem().Interface()
}

// apart: must something stand between two tokens?
func apart(a, b string) bool {
	l, _, e := lex.Lex(a + b)
	return e != api.OK || len(l) != 2 || l[0].Text != a || l[1].Text != b
}

// lay: a text of these tokens, with blanks and remarks among them, and the place of each and of the end.
func lay(r *rand.Rand, tokens []string) (string, []int) {
	gaps := []string{"", "", "", " ", " ", "\n", "\t", "\r", "(**)", " (* x (* end *) ) *) "}
	var s strings.Builder
	var at []int
	for i, t := range tokens {
		gap := gaps[r.Intn(len(gaps))]
		if gap == "" && i > 0 && apart(tokens[i-1], t) {
			gap = " "
		}
		s.WriteString(gap)
		at = append(at, s.Len())
		s.WriteString(t)
	}
	s.WriteString(gaps[r.Intn(len(gaps))])
	return s.String(), append(at, s.Len())
}
