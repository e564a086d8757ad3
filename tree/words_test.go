package tree_test

import (
	"fmt"
	"math/rand"
	"reflect"
	"strconv"
	"strings"
	"testing"

	"wafer/api"
	"wafer/names"
	"wafer/tree"
)

// Node: any sort of node.
type Node any

// chapter: its section 'Words', for each kind: the fields that it has, behind a colon how many there are (a number, ? none or one, + one or more, * any, more: one more than Pats) and of which sort the names are.
var chapter = map[string]map[int]string{
	"Ty": {
		api.YVar: "Name:tyvar", api.YCon: "Path:type", api.YFn: "Kids:2", api.YPair: "Kids:2",
	},
	"Pat": {
		api.PAny: "", api.PTrue: "", api.PFalse: "", api.PUnit: "", api.PVar: "Name:low", api.PInt: "N",
		api.PPair: "Kids:2", api.PCon: "Path:high Kids:?",
	},
	"Exp": {
		api.EInt: "N", api.ETrue: "", api.EFalse: "", api.EUnit: "", api.EVar: "Path:low", api.ECon: "Path:high",
		api.EFn: "Pats:1 Kids:1", api.EApp: "Kids:2", api.EPair: "Kids:2", api.ELet: "Decs:* Kids:1", api.EIf: "Kids:3",
		api.ECase: "Pats:+ Kids:more", api.EBin: "Op Kids:2", api.EAnn: "Kids:1 Tys:1",
	},
	"Dec": {
		api.DVal: "Name:low Tys:? Exps:1", api.DFun: "Name:low Params:+:low Tys:? Exps:1", api.DType: "Name:low Tys:1",
		api.DData: "Name:low Cons:+", api.DStr: "Name:high Mods:1", api.DSig: "Name:high Sigs:1",
		api.DFunctor: "Name:high Params:1:high Sigs:1 Mods:1",
	},
	"Con": {0: "Name:high Tys:?"},
	"Mod": {
		api.MPath: "Path:high", api.MStruct: "Decs:*", api.MApp: "Path:high Mods:1", api.MAsc: "Mods:1 Sigs:1",
		api.MSeal: "Mods:1 Sigs:1", api.MLet: "Decs:* Mods:1",
	},
	"Sig": {api.SPath: "Path:high", api.SSig: "Specs:*", api.SWhere: "Sigs:1 Path:low Tys:1"},
	"Spec": {
		api.CVal: "Name:low Tys:1", api.CType: "Name:low Tys:?", api.CData: "Name:low Cons:+", api.CStr: "Name:high Sigs:1",
	},
}

// words: what the chapter says of a kind.
func words(sort string, kind int) (string, bool) {
	w, ok := chapter[sort][kind]
	return w, ok
}

// rule: what the words of a kind say of a field.
func rule(words, field string) (string, bool) {
	for _, w := range strings.Fields(words) {
		if name, said, _ := strings.Cut(w, ":"); name == field {
			return said, true
		}
	}
	return "", false
}

// nodes: is it a list of nodes?
func nodes(v reflect.Value) bool {
	return v.Kind() == reflect.Slice && v.Type().Elem().Kind() == reflect.Struct
}

// fits: is a list as long as the words say?
func fits(node reflect.Value, list reflect.Value, said string) bool {
	many, _, _ := strings.Cut(said, ":")
	switch many {
	case "?":
		return list.Len() <= 1
	case "+":
		return list.Len() >= 1
	case "*":
		return true
	case "more":
		return list.Len() == node.FieldByName("Pats").Len()+1
	}
	n, err := strconv.Atoi(many)
	return err == nil && list.Len() == n
}

// own: has a node just what its kind says, names and parts aside?
func own(v reflect.Value, w string) bool {
	for i := range v.NumField() {
		name, f := v.Type().Field(i).Name, v.Field(i)
		said, has := rule(w, name)
		switch {
		case name == "Kind" || name == "At":
		case name == "Op" && has:
			if f.Int() < api.OAdd || f.Int() > api.OLt {
				return false
			}
		case name == "N" && has:
			if f.Int() < 0 {
				return false
			}
		case (name == "Name" || name == "Path") && has:
		case f.Kind() == reflect.Slice && has:
			if !fits(v, f, said) {
				return false
			}
		case f.Kind() == reflect.Slice:
			if f.Len() != 0 {
				return false
			}
		case !f.IsZero():
			return false
		}
	}
	if e, ok := v.Interface().(api.Exp); ok && e.Kind == api.ELet {
		for _, d := range e.Decs {
			if d.Kind != api.DVal && d.Kind != api.DFun {
				return false
			}
		}
	}
	return true
}

// ofSort: is it a name of the sort that the words say?
func ofSort(s, sort string) bool {
	switch sort {
	case "low":
		return names.Lower(s)
	case "high":
		return names.Upper(s)
	case "tyvar":
		return names.Tyvar(s)
	}
	return false
}

// nameError: the error of a name.
func nameError(s, sort string) api.Errno {
	switch {
	case ofSort(s, sort):
		return api.OK
	case names.Right(s) != api.OK:
		return names.Right(s)
	}
	return api.ErrName
}

// pathError: the error of a path.
func pathError(p []string, sort string) api.Errno {
	if sort == "type" {
		if len(p) == 1 && strings.Contains(" int bool unit ", " "+p[0]+" ") {
			return api.OK
		}
		sort = "low"
	}
	if e := names.Path(p); e != api.OK {
		return e
	}
	return nameError(p[len(p)-1], sort)
}

// namesError: the error of the first name of a node that is wrong.
func namesError(v reflect.Value, w string) api.Errno {
	if sort, has := rule(w, "Name"); has {
		if e := nameError(v.FieldByName("Name").String(), sort); e != api.OK {
			return e
		}
	}
	if sort, has := rule(w, "Path"); has {
		if e := pathError(v.FieldByName("Path").Interface().([]string), sort); e != api.OK {
			return e
		}
	}
	if said, has := rule(w, "Params"); has {
		_, sort, _ := strings.Cut(said, ":")
		for _, s := range v.FieldByName("Params").Interface().([]string) {
			if e := nameError(s, sort); e != api.OK {
				return e
			}
		}
	}
	return api.OK
}

// slowError: the error of a node by the chapter's words, OK if it is right; depth is not asked.
func slowError(v reflect.Value) api.Errno {
	kind := 0
	if f := v.FieldByName("Kind"); f.IsValid() {
		kind = int(f.Int())
	}
	w, ok := words(v.Type().Name(), kind)
	if !ok || !own(v, w) {
		return api.ErrArg
	}
	if e := namesError(v, w); e != api.OK {
		return e
	}
	for i := range v.NumField() {
		if f := v.Field(i); nodes(f) {
			for k := range f.Len() {
				if e := slowError(f.Index(k)); e != api.OK {
					return e
				}
			}
		}
	}
	return api.OK
}

// slowSize: how many nodes a node has, itself among them, and how deep the deepest one stands.
func slowSize(v reflect.Value) (many, deep int) {
	many, deep = 1, 1
	for i := range v.NumField() {
		if f := v.Field(i); nodes(f) {
			for k := range f.Len() {
				m, d := slowSize(f.Index(k))
				many, deep = many+m, max(deep, d+1)
			}
		}
	}
	return many, deep
}

// slowUnit: Right by the chapter's words.
func slowUnit(l []api.Dec) (int, api.Errno) {
	many := 0
	for i, d := range l {
		m, deep := slowSize(reflect.ValueOf(d))
		if deep > 100 {
			return i, api.ErrDeep
		}
		many += m
	}
	if many > 4096 {
		return 0, api.ErrBig
	}
	for i, d := range l {
		if e := slowError(reflect.ValueOf(d)); e != api.OK {
			return i, e
		}
	}
	return 0, api.OK
}

// ask: what the face answers of a node of any sort; a constructor is asked within a `data`, a specification within a `sig`.
func ask(n Node) api.Errno {
	var e api.Errno
	switch x := n.(type) {
	case api.Ty:
		e = tree.RightTy(x)
	case api.Pat:
		e = tree.RightPat(x)
	case api.Exp:
		e = tree.RightExp(x)
	case api.Mod:
		e = tree.RightMod(x)
	case api.Sig:
		e = tree.RightSig(x)
	case api.Dec:
		_, e = tree.Right([]api.Dec{x})
	case api.Con:
		_, e = tree.Right([]api.Dec{{Kind: api.DData, Name: "t", Cons: []api.Con{x}}})
	case api.Spec:
		e = tree.RightSig(api.Sig{Kind: api.SSig, Specs: []api.Spec{x}})
	}
	return e
}

// brief: the beginning of what a value looks like.
func brief(v any) string { return fmt.Sprintf("%.300s", fmt.Sprintf("%+v", v)) }

// hold: what the face answers of a node against slowError.
func hold(t *testing.T, n Node) {
	t.Helper()
	if got, want := ask(n), slowError(reflect.ValueOf(n)); got != want {
		t.Errorf("%T %s: %d, want %d", n, brief(n), got, want)
	}
}

// twin: a node all through in new memory, with empty lists as they are.
func twin(n Node) Node { return twinOf(reflect.ValueOf(n)).Interface() }

func twinOf(v reflect.Value) reflect.Value {
	out := reflect.New(v.Type()).Elem()
	out.Set(v)
	switch v.Kind() {
	case reflect.Struct:
		for i := range v.NumField() {
			out.Field(i).Set(twinOf(v.Field(i)))
		}
	case reflect.Slice:
		if v.IsNil() {
			break
		}
		out.Set(reflect.MakeSlice(v.Type(), v.Len(), v.Len()))
		for i := range v.Len() {
			out.Index(i).Set(twinOf(v.Index(i)))
		}
	}
	return out
}

// plain: a node without places, with nil for every list without an element: those that are alike here are the same.
func plain(n Node) Node {
	v := reflect.New(reflect.TypeOf(n)).Elem()
	v.Set(twinOf(reflect.ValueOf(n)))
	plainOf(v)
	return v.Interface()
}

func plainOf(v reflect.Value) {
	switch v.Kind() {
	case reflect.Struct:
		if at := v.FieldByName("At"); at.IsValid() {
			at.SetInt(0)
		}
		for i := range v.NumField() {
			plainOf(v.Field(i))
		}
	case reflect.Slice:
		if v.Len() == 0 {
			v.SetZero()
		}
		for i := range v.Len() {
			plainOf(v.Index(i))
		}
	}
}

// with: a twin of a node with another value in a field.
func with(n Node, field string, value any) Node {
	v := reflect.New(reflect.TypeOf(n)).Elem()
	v.Set(twinOf(reflect.ValueOf(n)))
	f := v.FieldByName(field)
	if value == nil {
		f.SetZero()
	} else {
		f.Set(twinOf(reflect.ValueOf(value)).Convert(f.Type()))
	}
	return v.Interface()
}

// fields: the names of the fields of a sort of node.
func fields(n Node) []string {
	var l []string
	for _, f := range reflect.VisibleFields(reflect.TypeOf(n)) {
		l = append(l, f.Name)
	}
	return l
}

// Short forms of nodes.
func list[N any](l ...N) []N          { return l }
func path(s string) []string          { return strings.Split(s, ".") }
func word(s string) api.Ty            { return api.Ty{Kind: api.YCon, Path: path(s)} }
func pairTy(a, b api.Ty) api.Ty       { return api.Ty{Kind: api.YPair, Kids: list(a, b)} }
func bind(s string) api.Pat           { return api.Pat{Kind: api.PVar, Name: s} }
func number(n int64) api.Exp          { return api.Exp{Kind: api.EInt, N: n} }
func use(s string) api.Exp            { return api.Exp{Kind: api.EVar, Path: path(s)} }
func val(s string, e api.Exp) api.Dec { return api.Dec{Kind: api.DVal, Name: s, Exps: list(e)} }
func modPath(s string) api.Mod        { return api.Mod{Kind: api.MPath, Path: path(s)} }
func sigPath(s string) api.Sig        { return api.Sig{Kind: api.SPath, Path: path(s)} }
func typeSpec(s string) api.Spec      { return api.Spec{Kind: api.CType, Name: s} }
func structure(s string, m api.Mod) api.Dec {
	return api.Dec{Kind: api.DStr, Name: s, Mods: list(m)}
}

// rights: right nodes, for each kind of each sort one at least, with and without what it may have.
func rights() []Node {
	in, x, y := word("int"), bind("x"), use("y")
	fun := api.Dec{Kind: api.DFun, Name: "f", Params: list("x", "y"), Tys: list(in), Exps: list(y)}
	nil0, cons := api.Con{Name: "Nil"}, api.Con{Name: "Cons", Tys: list(pairTy(in, word("list")))}
	s := sigPath("S")
	all := []Node{
		api.Ty{Kind: api.YVar, Name: "a"}, in, word("bool"), word("unit"), word("M.N.t"),
		api.Ty{Kind: api.YFn, Kids: list(in, word("t"))}, pairTy(word("t"), api.Ty{Kind: api.YVar, Name: "int"}),
		api.Pat{Kind: api.PAny}, x, api.Pat{Kind: api.PInt, N: 7}, api.Pat{Kind: api.PInt}, api.Pat{Kind: api.PTrue},
		api.Pat{Kind: api.PFalse}, api.Pat{Kind: api.PUnit}, api.Pat{Kind: api.PPair, Kids: list(x, bind("y"))},
		api.Pat{Kind: api.PCon, Path: path("M.Nil")}, api.Pat{Kind: api.PCon, Path: path("Cons"), Kids: list(x)},
		number(0), number(5), api.Exp{Kind: api.ETrue}, api.Exp{Kind: api.EFalse}, api.Exp{Kind: api.EUnit}, use("A.x"), y,
		api.Exp{Kind: api.ECon, Path: path("Nil")}, api.Exp{Kind: api.ECon, Path: path("A.B")},
		api.Exp{Kind: api.EFn, Pats: list(x), Kids: list(y)}, api.Exp{Kind: api.EApp, Kids: list(y, number(1))},
		api.Exp{Kind: api.EPair, Kids: list(number(1), y)}, api.Exp{Kind: api.ELet, Kids: list(y)},
		api.Exp{Kind: api.ELet, Decs: list(val("y", number(1)), fun), Kids: list(y)}, api.Exp{Kind: api.EIf, Kids: list(y, number(1), number(2))},
		api.Exp{Kind: api.ECase, Pats: list(x), Kids: list(y, number(1))},
		api.Exp{Kind: api.ECase, Pats: list(x, bind("z"), x), Kids: list(y, number(1), number(2), y)},
		api.Exp{Kind: api.EAnn, Kids: list(y), Tys: list(in)},
		val("v", number(3)), api.Dec{Kind: api.DVal, At: 9, Name: "v", Tys: list(in), Exps: list(y)}, fun,
		api.Dec{Kind: api.DFun, Name: "g", Params: list("x"), Exps: list(y)}, api.Dec{Kind: api.DType, Name: "t", Tys: list(in)},
		api.Dec{Kind: api.DData, Name: "list", Cons: list(nil0, cons)}, api.Dec{Kind: api.DData, Name: "t", Cons: list(nil0)},
		structure("M", modPath("N")), api.Dec{Kind: api.DSig, Name: "S", Sigs: list(s)},
		api.Dec{Kind: api.DFunctor, Name: "F", Params: list("X"), Mods: list(modPath("X")), Sigs: list(s)}, nil0, cons,
		modPath("M"), modPath("M.N"), api.Mod{Kind: api.MStruct}, api.Mod{Kind: api.MStruct, Decs: list(fun, structure("M", modPath("N")))},
		api.Mod{Kind: api.MApp, Path: path("A.F"), Mods: list(modPath("M"))}, api.Mod{Kind: api.MAsc, Mods: list(modPath("M")), Sigs: list(s)},
		api.Mod{Kind: api.MSeal, Mods: list(modPath("M")), Sigs: list(s)}, api.Mod{Kind: api.MLet, Mods: list(modPath("M"))},
		api.Mod{Kind: api.MLet, Decs: list(fun), Mods: list(modPath("M"))},
		s, sigPath("A.S"), api.Sig{Kind: api.SSig}, api.Sig{Kind: api.SSig, Specs: list(typeSpec("t"), typeSpec("u"))},
		api.Sig{Kind: api.SWhere, Path: path("t"), Sigs: list(s), Tys: list(in)}, api.Sig{Kind: api.SWhere, Path: path("M.t"), Sigs: list(s), Tys: list(in)},
		api.Spec{Kind: api.CVal, At: 3, Name: "v", Tys: list(in)}, typeSpec("t"), api.Spec{Kind: api.CType, Name: "t", Tys: list(in)},
		api.Spec{Kind: api.CData, Name: "t", Cons: list(nil0, cons)}, api.Spec{Kind: api.CStr, Name: "M", Sigs: list(s)},
	}
	for op := api.OAdd; op <= api.OLt; op++ {
		all = append(all, api.Exp{Kind: api.EBin, Op: op, Kids: list(y, number(1))})
	}
	return all
}

// spots: a node and all that stand in it, each where it can be written.
func spots(v reflect.Value) []reflect.Value {
	all := []reflect.Value{v}
	for i := range v.NumField() {
		if f := v.Field(i); nodes(f) {
			for k := range f.Len() {
				all = append(all, spots(f.Index(k))...)
			}
		}
	}
	return all
}

// grow: a node with other nodes, right by themselves, in the place of some of its parts, and these grown likewise.
func grow(chance *rand.Rand, pool map[reflect.Type][]Node, t reflect.Type, deep int) reflect.Value {
	l := pool[t]
	v := reflect.New(t).Elem()
	v.Set(twinOf(reflect.ValueOf(l[chance.Intn(len(l))])))
	if deep == 0 {
		return v
	}
	let := t.Name() == "Exp" && v.FieldByName("Kind").Int() == api.ELet
	for i := range v.NumField() {
		if f := v.Field(i); nodes(f) {
			for k := range f.Len() {
				if part := grow(chance, pool, f.Type().Elem(), deep-1); !let || t.Field(i).Name != "Decs" || part.FieldByName("Kind").Int() <= api.DFun {
					f.Index(k).Set(part)
				}
			}
		}
	}
	return v
}

// change: writes something else, or the same again, into a field somewhere within a node.
func change(chance *rand.Rand, v reflect.Value) {
	l := spots(v)
	at := l[chance.Intn(len(l))]
	i := chance.Intn(at.NumField())
	f := at.Field(i)
	all := values(f, at.Type().Field(i).Name)
	if x := all[chance.Intn(len(all))]; x == nil {
		f.SetZero()
	} else {
		f.Set(twinOf(reflect.ValueOf(x)))
	}
}

// pool: the right nodes by their sorts.
func pool() map[reflect.Type][]Node {
	m := map[reflect.Type][]Node{}
	for _, n := range rights() {
		m[reflect.TypeOf(n)] = append(m[reflect.TypeOf(n)], n)
	}
	return m
}
