package print_test

import (
	"fmt"
	"math"
	"math/rand"
	"regexp"
	"slices"
	"strconv"
	"strings"
	"sync"

	"wafer/api"
	"wafer/print"
)

// form: what the chapter says of a kind: its own level, and its text, in which `{sort level}` stands for a part at a level; build makes the node of its parts, in the order in which they stand in the text.
type form struct {
	sorts string
	level int
	text  string
	build func(parts ...any) any
}

// sample: a node, its level and its text by the chapter.
type sample struct {
	node  any
	level int
	text  string
}

var slots = regexp.MustCompile(`\{(\w+)( \d)?\}`)

// holes: the sort and the level of each part, 0 where a part has no levels.
func (f form) holes() (sorts []string, levels []int) {
	for _, m := range slots.FindAllStringSubmatch(f.text, -1) {
		level, _ := strconv.Atoi(strings.TrimSpace(m[2]))
		sorts, levels = append(sorts, m[1]), append(levels, level)
	}
	return sorts, levels
}

// fill: the form with parts in it.
func (f form) fill(parts []sample) sample {
	_, levels := f.holes()
	var nodes []any
	i := -1
	text := slots.ReplaceAllStringFunc(f.text, func(string) string {
		i++
		nodes = append(nodes, parts[i].node)
		if parts[i].level < levels[i] {
			return "(" + parts[i].text + ")"
		}
		return parts[i].text
	})
	return sample{f.build(nodes...), f.level, text}
}

// of: the nodes of one sort among parts.
func of[N any](parts []any) []N {
	var l []N
	for _, p := range parts {
		if n, ok := p.(N); ok {
			l = append(l, n)
		}
	}
	return l
}

func path(s string) []string { return strings.Split(s, ".") }

const longPath = "Aa.B.C.D.E.F.G."

func leaf(node any) func(...any) any { return func(...any) any { return node } }

func tyForms() []form {
	con := func(s string) form {
		return form{"ty", 3, s, leaf(api.Ty{Kind: api.YCon, Path: path(s)})}
	}
	variable := func(s string) form {
		return form{"ty", 3, "'" + s, leaf(api.Ty{Kind: api.YVar, Name: s})}
	}
	two := func(kind, level int, text string) form {
		return form{"ty", level, text, func(parts ...any) any { return api.Ty{Kind: kind, Kids: of[api.Ty](parts)} }}
	}
	return []form{
		con("int"), con("bool"), con("unit"), con("t"), con("M.t"), con(longPath + "t"), con("ints"),
		variable("a"), variable("int"), variable("z9"), variable(strings.Repeat("v", api.MaxName-1)),
		two(api.YFn, 1, "{ty 2} -> {ty 1}"), two(api.YPair, 2, "{ty 2} * {ty 3}"),
	}
}

func patForms() []form {
	plain := func(kind int, text string) form { return form{"pat", 2, text, leaf(api.Pat{Kind: kind})} }
	number := func(n int64) form {
		return form{"pat", 2, fmt.Sprint(n), leaf(api.Pat{Kind: api.PInt, N: n})}
	}
	con := func(s string) []form {
		return []form{
			{"pat", 2, s, leaf(api.Pat{Kind: api.PCon, Path: path(s)})},
			{"pat", 1, s + " {pat 2}", func(parts ...any) any { return api.Pat{Kind: api.PCon, Path: path(s), Kids: of[api.Pat](parts)} }},
		}
	}
	return slices.Concat([]form{
		plain(api.PAny, "_"), plain(api.PTrue, "true"), plain(api.PFalse, "false"), plain(api.PUnit, "()"),
		number(0), number(7), number(math.MaxInt64),
		{"pat", 2, "x", leaf(api.Pat{Kind: api.PVar, Name: "x"})},
		{"pat", 2, "({pat 1}, {pat 1})", func(parts ...any) any { return api.Pat{Kind: api.PPair, Kids: of[api.Pat](parts)} }},
	}, con("A"), con("M.Cons"), con(longPath+"H"))
}

func expForms() []form {
	plain := func(kind int, text string) form { return form{"exp", 6, text, leaf(api.Exp{Kind: kind})} }
	number := func(n int64) form {
		return form{"exp", 6, fmt.Sprint(n), leaf(api.Exp{Kind: api.EInt, N: n})}
	}
	named := func(kind int, s string) form {
		return form{"exp", 6, s, leaf(api.Exp{Kind: kind, Path: path(s)})}
	}
	parts := func(kind, op, level int, text string) form {
		return form{"exp", level, text, func(p ...any) any {
			return api.Exp{Kind: kind, Op: op, Pats: of[api.Pat](p), Kids: of[api.Exp](p), Decs: of[api.Dec](p), Tys: of[api.Ty](p)}
		}}
	}
	return []form{
		number(0), number(42), number(math.MaxInt64),
		plain(api.ETrue, "true"), plain(api.EFalse, "false"), plain(api.EUnit, "()"),
		named(api.EVar, "x"), named(api.EVar, "M.x"), named(api.EVar, longPath+"x"),
		named(api.ECon, "A"), named(api.ECon, "M.A"), named(api.ECon, longPath+"H"),
		parts(api.EFn, 0, 1, "fn {pat 1} => {exp 1}"),
		parts(api.EApp, 0, 5, "{exp 5} {exp 6}"),
		parts(api.EPair, 0, 6, "({exp 1}, {exp 1})"),
		parts(api.ELet, 0, 6, "let in {exp 1} end"),
		parts(api.ELet, 0, 6, "let {val} in {exp 1} end"),
		parts(api.ELet, 0, 6, "let {val} {val} {val} in {exp 1} end"),
		parts(api.EIf, 0, 1, "if {exp 1} then {exp 1} else {exp 1}"),
		parts(api.ECase, 0, 6, "case {exp 1} of {pat 1} => {exp 1} end"),
		parts(api.ECase, 0, 6, "case {exp 1} of {pat 1} => {exp 1} | {pat 1} => {exp 1} end"),
		parts(api.ECase, 0, 6, "case {exp 1} of {pat 1} => {exp 1} | {pat 1} => {exp 1} | {pat 1} => {exp 1} end"),
		parts(api.EBin, api.OEq, 2, "{exp 3} = {exp 3}"),
		parts(api.EBin, api.OLt, 2, "{exp 3} < {exp 3}"),
		parts(api.EBin, api.OAdd, 3, "{exp 3} + {exp 4}"),
		parts(api.EBin, api.OSub, 3, "{exp 3} - {exp 4}"),
		parts(api.EBin, api.OMul, 4, "{exp 4} * {exp 5}"),
		parts(api.EBin, api.ODiv, 4, "{exp 4} / {exp 5}"),
		parts(api.EAnn, 0, 6, "({exp 1} : {ty 1})"),
	}
}

func conForms() []form {
	con := func(name, text string) form {
		return form{"con", 0, text, func(parts ...any) any { return api.Con{Name: name, Tys: of[api.Ty](parts)} }}
	}
	return []form{con("A", "A"), con("Nil", "Nil"), con("A", "A of {ty 1}"), con("Cons", "Cons of {ty 1}")}
}

func decForms() []form {
	parts := func(sorts string, kind int, name string, params []string, text string) form {
		return form{sorts, 0, text, func(p ...any) any {
			return api.Dec{
				Kind: kind, Name: name, Params: slices.Clone(params),
				Tys: of[api.Ty](p), Exps: of[api.Exp](p), Cons: of[api.Con](p), Mods: of[api.Mod](p), Sigs: of[api.Sig](p),
			}
		}}
	}
	return []form{
		parts("val dec", api.DVal, "x", nil, "val x = {exp 1}"),
		parts("val dec", api.DVal, "x", nil, "val x : {ty 1} = {exp 1}"),
		parts("val dec", api.DFun, "f", []string{"x"}, "fun f x = {exp 1}"),
		parts("val dec", api.DFun, "f", []string{"x", "f", "x"}, "fun f x f x = {exp 1}"),
		parts("val dec", api.DFun, "f", []string{"x"}, "fun f x : {ty 1} = {exp 1}"),
		parts("val dec", api.DFun, "f", []string{"x", "y"}, "fun f x y : {ty 1} = {exp 1}"),
		parts("dec", api.DType, "t", nil, "type t = {ty 1}"),
		parts("dec", api.DData, "t", nil, "data t = {con}"),
		parts("dec", api.DData, "t", nil, "data t = {con} | {con}"),
		parts("dec", api.DData, "t", nil, "data t = {con} | {con} | {con}"),
		parts("dec", api.DStr, "M", nil, "structure M = {mod 1}"),
		parts("dec", api.DSig, "S", nil, "signature S = {sig 1}"),
		parts("dec", api.DFunctor, "F", []string{"X"}, "functor F(X : {sig 1}) = {mod 1}"),
	}
}

func modForms() []form {
	parts := func(kind, level int, p []string, text string) form {
		return form{"mod", level, text, func(l ...any) any {
			return api.Mod{Kind: kind, Path: slices.Clone(p), Decs: of[api.Dec](l), Mods: of[api.Mod](l), Sigs: of[api.Sig](l)}
		}}
	}
	return []form{
		parts(api.MPath, 2, path("M"), "M"), parts(api.MPath, 2, path("M.N"), "M.N"), parts(api.MPath, 2, path(longPath+"H"), longPath+"H"),
		parts(api.MStruct, 2, nil, "struct end"),
		parts(api.MStruct, 2, nil, "struct {dec} end"),
		parts(api.MStruct, 2, nil, "struct {dec} {dec} {dec} end"),
		parts(api.MApp, 2, path("F"), "F({mod 1})"), parts(api.MApp, 2, path("M.F"), "M.F({mod 1})"),
		parts(api.MAsc, 1, nil, "{mod 1} : {sig 1}"),
		parts(api.MSeal, 1, nil, "{mod 1} :> {sig 1}"),
		parts(api.MLet, 2, nil, "let in {mod 1} end"),
		parts(api.MLet, 2, nil, "let {dec} in {mod 1} end"),
		parts(api.MLet, 2, nil, "let {dec} {dec} in {mod 1} end"),
	}
}

func sigForms() []form {
	parts := func(kind, level int, p []string, text string) form {
		return form{"sig", level, text, func(l ...any) any {
			return api.Sig{Kind: kind, Path: slices.Clone(p), Specs: of[api.Spec](l), Sigs: of[api.Sig](l), Tys: of[api.Ty](l)}
		}}
	}
	return []form{
		parts(api.SPath, 2, path("S"), "S"), parts(api.SPath, 2, path("M.S"), "M.S"), parts(api.SPath, 2, path(longPath+"H"), longPath+"H"),
		parts(api.SSig, 2, nil, "sig end"),
		parts(api.SSig, 2, nil, "sig {spec} end"),
		parts(api.SSig, 2, nil, "sig {spec} {spec} {spec} end"),
		parts(api.SWhere, 1, path("t"), "{sig 1} where type t = {ty 1}"),
		parts(api.SWhere, 1, path("M.t"), "{sig 1} where type M.t = {ty 1}"),
		parts(api.SWhere, 1, path(longPath+"t"), "{sig 1} where type "+longPath+"t = {ty 1}"),
	}
}

func specForms() []form {
	parts := func(kind int, name, text string) form {
		return form{"spec", 0, text, func(l ...any) any {
			return api.Spec{Kind: kind, Name: name, Tys: of[api.Ty](l), Cons: of[api.Con](l), Sigs: of[api.Sig](l)}
		}}
	}
	return []form{
		parts(api.CVal, "x", "val x : {ty 1}"),
		parts(api.CType, "t", "type t"),
		parts(api.CType, "t", "type t = {ty 1}"),
		parts(api.CData, "t", "data t = {con}"),
		parts(api.CData, "t", "data t = {con} | {con} | {con}"),
		parts(api.CStr, "M", "structure M : {sig 1}"),
	}
}

func allForms() []form {
	return slices.Concat(tyForms(), patForms(), expForms(), conForms(), decForms(), modForms(), sigForms(), specForms())
}

var bySort = sync.OnceValue(func() map[string][]form {
	by := map[string][]form{}
	for _, f := range allForms() {
		for _, sort := range strings.Fields(f.sorts) {
			by[sort] = append(by[sort], f)
		}
	}
	return by
})

// formsOf: those that may stand where a sort is asked for.
func formsOf(sort string) []form { return bySort()[sort] }

// atom: a small node of a sort, another one for each number.
func atom(sort string, n int) sample {
	var texts []string
	switch sort {
	case "val":
		texts = []string{"val x = {exp 1}", "fun f x = {exp 1}", "val x : {ty 1} = {exp 1}"}
	case "dec":
		texts = []string{"type t = {ty 1}", "val x = {exp 1}", "data t = {con}"}
	case "spec":
		texts = []string{"type t", "val x : {ty 1}", "type t = {ty 1}"}
	default:
		texts = map[string][]string{
			"ty": {"int", "'a", "M.t"}, "pat": {"x", "_", "A"}, "exp": {"x", "42", "M.A"},
			"con": {"A", "Nil", "Cons of {ty 1}"}, "mod": {"M", "struct end", "M.N"}, "sig": {"S", "sig end", "M.S"},
		}[sort]
	}
	for _, f := range formsOf(sort) {
		if f.text == texts[n%len(texts)] {
			return f.fill(atoms(f, n))
		}
	}
	panic("no atom of " + sort)
}

// atoms: small parts for a form, unlike ones.
func atoms(f form, n int) []sample {
	sorts, _ := f.holes()
	var parts []sample
	for i, sort := range sorts {
		parts = append(parts, atom(sort, n+i))
	}
	return parts
}

// pairs: for each form each form as each of its parts, the other parts small ones; and each form with small parts alone.
func pairs() []sample {
	var l []sample
	for _, f := range allForms() {
		l = append(l, f.fill(atoms(f, 0)))
		sorts, _ := f.holes()
		for i, sort := range sorts {
			for _, inner := range formsOf(sort) {
				parts := atoms(f, 0)
				parts[i] = inner.fill(atoms(inner, 1))
				l = append(l, f.fill(parts))
			}
		}
	}
	return l
}

// grow: a random node of a sort, of at most so many levels, or few more.
func grow(r *rand.Rand, sort string, levels int) sample {
	if levels <= 1 {
		return atom(sort, r.Intn(3))
	}
	l := formsOf(sort)
	f := l[r.Intn(len(l))]
	// Most kinds have no parts: they are left for the others, mostly, so that nodes become deep.
	for tries := 0; tries < 3 && !strings.Contains(f.text, "{"); tries++ {
		f = l[r.Intn(len(l))]
	}
	sorts, _ := f.holes()
	var parts []sample
	for _, s := range sorts {
		parts = append(parts, grow(r, s, levels-1))
	}
	return f.fill(parts)
}

// text: what print tells of any node; a constructor and a specification, which have no call of their own, are asked for within the least that has them.
func text(node any) (string, api.Errno) {
	switch n := node.(type) {
	case api.Ty:
		return print.Ty(n)
	case api.Pat:
		return print.Pat(n)
	case api.Exp:
		return print.Exp(n)
	case api.Mod:
		return print.Mod(n)
	case api.Sig:
		return print.Sig(n)
	case api.Dec:
		return print.Dec(n)
	case api.Con:
		s, e := print.Dec(api.Dec{Kind: api.DData, Name: "t", Cons: []api.Con{n}})
		return strings.TrimPrefix(s, "data t = "), e
	case api.Spec:
		s, e := print.Sig(api.Sig{Kind: api.SSig, Specs: []api.Spec{n}})
		return strings.TrimSuffix(strings.TrimPrefix(s, "sig "), " end"), e
	case []api.Dec:
		return print.Unit(n)
	}
	panic(fmt.Sprintf("no node: %T", node))
}
