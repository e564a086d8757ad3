package parsecore_test

import (
	"fmt"
	"math/rand"
	"reflect"
	"strings"

	"wafer/api"
	"wafer/lex"
)

// Short texts of nodes, in which each node that has parts stands in brackets of its own behind its kind.

func showAll[N any](l []N, show func(N) string) string {
	var b strings.Builder
	for _, n := range l {
		b.WriteString(" " + show(n))
	}
	return b.String()
}

func showTy(t api.Ty) string {
	kind := map[int]string{api.YVar: "'", api.YCon: "", api.YFn: "->", api.YPair: "*"}
	return wrap(named(kind, t.Kind) + t.Name + strings.Join(t.Path, ".") + showAll(t.Kids, showTy))
}

func showPat(p api.Pat) string {
	kind := map[int]string{api.PAny: "_", api.PVar: "", api.PInt: "#", api.PTrue: "true", api.PFalse: "false", api.PUnit: "unit", api.PPair: "pair", api.PCon: "@"}
	s := named(kind, p.Kind) + p.Name + strings.Join(p.Path, ".")
	if p.N != 0 || p.Kind == api.PInt {
		s += fmt.Sprint(p.N)
	}
	return wrap(s + showAll(p.Kids, showPat))
}

func showExp(e api.Exp) string {
	kind := map[int]string{
		api.EInt: "#", api.ETrue: "true", api.EFalse: "false", api.EUnit: "unit", api.EVar: "", api.ECon: "@", api.EFn: "fn", api.EApp: "app",
		api.EPair: "pair", api.ELet: "let", api.EIf: "if", api.ECase: "case", api.EBin: "", api.EAnn: "ann",
	}
	s := named(kind, e.Kind) + strings.Join(e.Path, ".")
	if e.N != 0 || e.Kind == api.EInt {
		s += fmt.Sprint(e.N)
	}
	if e.Op != 0 || e.Kind == api.EBin {
		s += named(map[int]string{api.OAdd: "+", api.OSub: "-", api.OMul: "*", api.ODiv: "/", api.OEq: "=", api.OLt: "<"}, e.Op)
	}
	return wrap(s + showAll(e.Pats, showPat) + showAll(e.Decs, showDec) + showAll(e.Kids, showExp) + showAll(e.Tys, showTy))
}

func showDec(d api.Dec) string {
	if len(d.Cons)+len(d.Mods)+len(d.Sigs) > 0 {
		return "more than a val or fun has"
	}
	s := named(map[int]string{api.DVal: "val", api.DFun: "fun"}, d.Kind)
	s += fmt.Sprint(":", d.At) + showAll(append([]string{d.Name}, d.Params...), strings.Clone)
	for _, t := range d.Tys {
		s += " : " + showTy(t)
	}
	return wrap(s + " =" + showAll(d.Exps, showExp))
}

func named(by map[int]string, kind int) string {
	if s, ok := by[kind]; ok {
		return s
	}
	return fmt.Sprint("?", kind)
}

func wrap(s string) string {
	if strings.Contains(s, " ") {
		return "[" + s + "]"
	}
	return s
}

// shown: any of the nodes that a Reader reads.
func shown(node any) string {
	switch n := node.(type) {
	case api.Ty:
		return showTy(n)
	case api.Pat:
		return showPat(n)
	case api.Exp:
		return showExp(n)
	case api.Dec:
		return showDec(n)
	}
	return fmt.Sprintf("%+v", node)
}

// alike: are they alike all through, places too, a nil list and an empty one the same?
func alike(a, b any) bool { return fmt.Sprintf("%+v", a) == fmt.Sprintf("%+v", b) }

// eachDec: does something with each declaration in a node.
func eachDec(v reflect.Value, do func(*api.Dec)) {
	switch v.Kind() {
	case reflect.Pointer:
		eachDec(v.Elem(), do)
	case reflect.Struct:
		if d, ok := v.Addr().Interface().(*api.Dec); ok {
			do(d)
		}
		for i := range v.NumField() {
			eachDec(v.Field(i), do)
		}
	case reflect.Slice:
		for i := range v.Len() {
			eachDec(v.Index(i), do)
		}
	}
}

// writer: writes nodes as tokens by the chapter's grammar, each as the grammar's rule that is asked for, with parentheses where another rule has to, and here and there where none has to.
type writer struct {
	rand   *rand.Rand
	tokens []string
}

func (w *writer) add(texts ...string) { w.tokens = append(w.tokens, texts...) }

// chance: true once in n times.
func (w *writer) chance(n int) bool { return w.rand.Intn(n) == 0 }

func (w *writer) path(p []string) {
	for i, name := range p {
		if i > 0 {
			w.add(".")
		}
		w.add(name)
	}
}

// closed: is a node put into parentheses, where a rule of one level is asked for and it is of another?
func (w *writer) closed(own, asked int, inner func()) bool {
	if own >= asked && !w.chance(8) {
		return false
	}
	w.add("(")
	inner()
	w.add(")")
	return true
}

// ty: levels: 1 ty, 2 pairty, 3 aty.
func (w *writer) ty(t *api.Ty, level int) {
	own := map[int]int{api.YFn: 1, api.YPair: 2, api.YVar: 3, api.YCon: 3}[t.Kind]
	if w.closed(own, level, func() { w.ty(t, 1) }) {
		return
	}
	switch t.Kind {
	case api.YVar:
		w.add("'" + t.Name)
	case api.YCon:
		w.path(t.Path)
	case api.YFn:
		w.ty(&t.Kids[0], 2)
		w.add("->")
		w.ty(&t.Kids[1], 1)
	case api.YPair:
		w.ty(&t.Kids[0], 2)
		w.add("*")
		w.ty(&t.Kids[1], 3)
	}
}

// pat: levels: 1 pat, 2 apat.
func (w *writer) pat(p *api.Pat, level int) {
	own := 2
	if len(p.Kids) == 1 {
		own = 1
	}
	if w.closed(own, level, func() { w.pat(p, 1) }) {
		return
	}
	switch p.Kind {
	case api.PAny:
		w.add("_")
	case api.PVar:
		w.add(p.Name)
	case api.PInt:
		w.add(fmt.Sprint(p.N))
	case api.PTrue:
		w.add("true")
	case api.PFalse:
		w.add("false")
	case api.PUnit:
		w.add("(", ")")
	case api.PPair:
		w.add("(")
		w.pat(&p.Kids[0], 1)
		w.add(",")
		w.pat(&p.Kids[1], 1)
		w.add(")")
	case api.PCon:
		w.path(p.Path)
		for i := range p.Kids {
			w.pat(&p.Kids[i], 2)
		}
	}
}

// expLevel: 1 exp, 2 cmp, 3 sum, 4 prod, 5 app, 6 atom.
func expLevel(e *api.Exp) int {
	switch e.Kind {
	case api.EFn, api.EIf:
		return 1
	case api.EApp:
		return 5
	case api.EBin:
		return map[int]int{api.OEq: 2, api.OLt: 2, api.OAdd: 3, api.OSub: 3, api.OMul: 4, api.ODiv: 4}[e.Op]
	}
	return 6
}

func (w *writer) exp(e *api.Exp, level int) {
	if w.closed(expLevel(e), level, func() { w.exp(e, 1) }) {
		return
	}
	switch e.Kind {
	case api.EInt:
		w.add(fmt.Sprint(e.N))
	case api.ETrue:
		w.add("true")
	case api.EFalse:
		w.add("false")
	case api.EUnit:
		w.add("(", ")")
	case api.EVar, api.ECon:
		w.path(e.Path)
	case api.EFn:
		w.add("fn")
		w.pat(&e.Pats[0], 1)
		w.add("=>")
		w.exp(&e.Kids[0], 1)
	case api.EApp:
		w.exp(&e.Kids[0], 5)
		w.exp(&e.Kids[1], 6)
	case api.EPair:
		w.add("(")
		w.exp(&e.Kids[0], 1)
		w.add(",")
		w.exp(&e.Kids[1], 1)
		w.add(")")
	case api.EIf:
		for i, word := range []string{"if", "then", "else"} {
			w.add(word)
			w.exp(&e.Kids[i], 1)
		}
	case api.EBin:
		w.binary(e)
	case api.EAnn:
		w.add("(")
		w.exp(&e.Kids[0], 1)
		w.add(":")
		w.ty(&e.Tys[0], 1)
		w.add(")")
	case api.ELet:
		w.let(e)
	case api.ECase:
		w.cases(e)
	}
}

func (w *writer) binary(e *api.Exp) {
	left, right := expLevel(e), expLevel(e)+1
	if left == 2 {
		left = 3
	}
	w.exp(&e.Kids[0], left)
	w.add(map[int]string{api.OAdd: "+", api.OSub: "-", api.OMul: "*", api.ODiv: "/", api.OEq: "=", api.OLt: "<"}[e.Op])
	w.exp(&e.Kids[1], right)
}

func (w *writer) let(e *api.Exp) {
	w.add("let")
	for i := range e.Decs {
		w.dec(&e.Decs[i])
	}
	w.add("in")
	w.exp(&e.Kids[0], 1)
	w.add("end")
}

func (w *writer) cases(e *api.Exp) {
	w.add("case")
	w.exp(&e.Kids[0], 1)
	w.add("of")
	for i := range e.Pats {
		if i > 0 || w.chance(2) {
			w.add("|")
		}
		w.pat(&e.Pats[i], 1)
		w.add("=>")
		w.exp(&e.Kids[i+1], 1)
	}
	w.add("end")
}

// dec: At becomes the number of its first token.
func (w *writer) dec(d *api.Dec) {
	d.At = len(w.tokens)
	w.add(map[int]string{api.DVal: "val", api.DFun: "fun"}[d.Kind], d.Name)
	w.add(d.Params...)
	for i := range d.Tys {
		w.add(":")
		w.ty(&d.Tys[i], 1)
	}
	w.add("=")
	w.exp(&d.Exps[0], 1)
}

// apart: must something stand between two tokens?
func apart(a, b string) bool {
	l, _, e := lex.Lex(a + b)
	return e != api.OK || len(l) != 2 || l[0].Text != a || l[1].Text != b
}

// lay: a text of these tokens, with blanks and remarks among them, and the place of each and of the end.
func lay(r *rand.Rand, tokens []string) (string, []int) {
	gaps := []string{"", "", " ", " ", "\n", "\t", "\r", "(**)", " (* x (* end *) ) *) "}
	var s string
	var at []int
	for i, t := range tokens {
		gap := gaps[r.Intn(len(gaps))]
		if gap == "" && i > 0 && apart(tokens[i-1], t) {
			gap = " "
		}
		s += gap
		at = append(at, len(s))
		s += t
	}
	s += gaps[r.Intn(len(gaps))]
	return s, append(at, len(s))
}

// grower: makes random nodes, of at most so many levels.
type grower struct{ rand *rand.Rand }

func (g grower) pick(l ...string) string { return l[g.rand.Intn(len(l))] }

func (g grower) low() string { return g.pick("x", "y", "f", "x1", "a_B", "ints", "l") }

func (g grower) high() string { return g.pick("A", "M", "Nil", "Cons", "B_2", "Int") }

func (g grower) path(last string) []string {
	var p []string
	for range max(g.rand.Intn(12)-8, 0) + g.rand.Intn(2)*g.rand.Intn(api.MaxPath-3) {
		p = append(p, g.high())
	}
	return append(p, last)
}

func (g grower) ty(levels int) api.Ty {
	kinds := []int{api.YVar, api.YCon, api.YFn, api.YPair}
	if levels <= 1 {
		kinds = kinds[:2]
	}
	t := api.Ty{Kind: kinds[g.rand.Intn(len(kinds))]}
	switch t.Kind {
	case api.YVar:
		t.Name = g.pick("a", "b9", "int", "fn", "x")
	case api.YCon:
		t.Path = []string{g.pick("int", "bool", "unit")}
		if g.rand.Intn(2) == 0 {
			t.Path = g.path(g.low())
		}
	default:
		t.Kids = []api.Ty{g.ty(levels - 1), g.ty(levels - 1)}
	}
	return t
}

func (g grower) pat(levels int) api.Pat {
	p := api.Pat{Kind: api.PAny + g.rand.Intn(api.PCon)}
	if p.Kind == api.PPair && levels <= 1 {
		p.Kind = api.PVar
	}
	switch p.Kind {
	case api.PVar:
		p.Name = g.low()
	case api.PInt:
		p.N = g.number()
	case api.PPair:
		p.Kids = []api.Pat{g.pat(levels - 1), g.pat(levels - 1)}
	case api.PCon:
		p.Path = g.path(g.high())
		if levels > 1 && g.rand.Intn(3) > 0 {
			p.Kids = []api.Pat{g.pat(levels - 1)}
		}
	}
	return p
}

func (g grower) number() int64 {
	return []int64{0, 1, 7, 42, 1<<63 - 1, g.rand.Int63()}[g.rand.Intn(6)]
}

func (g grower) exps(n, levels int) []api.Exp {
	var l []api.Exp
	for range n {
		l = append(l, g.exp(levels))
	}
	return l
}

func (g grower) exp(levels int) api.Exp {
	e := api.Exp{Kind: api.EInt + g.rand.Intn(api.EAnn)}
	if levels <= 1 {
		e.Kind = api.EInt + g.rand.Intn(api.ECon)
	}
	switch e.Kind {
	case api.EInt:
		e.N = g.number()
	case api.EVar:
		e.Path = g.path(g.low())
	case api.ECon:
		e.Path = g.path(g.high())
	case api.EFn:
		e.Pats, e.Kids = []api.Pat{g.pat(levels - 1)}, g.exps(1, levels-1)
	case api.EApp, api.EPair:
		e.Kids = g.exps(2, levels-1)
	case api.ELet:
		for range g.rand.Intn(4) {
			e.Decs = append(e.Decs, g.dec(levels-1))
		}
		e.Kids = g.exps(1, levels-1)
	case api.EIf:
		e.Kids = g.exps(3, levels-1)
	case api.ECase:
		e.Kids = g.exps(1, levels-1)
		for range 1 + g.rand.Intn(3) {
			e.Pats = append(e.Pats, g.pat(levels-1))
			e.Kids = append(e.Kids, g.exp(levels-1))
		}
	case api.EBin:
		e.Op, e.Kids = api.OAdd+g.rand.Intn(api.OLt), g.exps(2, levels-1)
	case api.EAnn:
		e.Kids, e.Tys = g.exps(1, levels-1), []api.Ty{g.ty(levels - 1)}
	}
	return e
}

func (g grower) dec(levels int) api.Dec {
	d := api.Dec{Kind: api.DVal + g.rand.Intn(2), Name: g.low()}
	if d.Kind == api.DFun {
		for range 1 + g.rand.Intn(3) {
			d.Params = append(d.Params, g.low())
		}
	}
	if g.rand.Intn(3) == 0 {
		d.Tys = []api.Ty{g.ty(levels - 1)}
	}
	d.Exps = []api.Exp{g.exp(levels - 1)}
	return d
}
