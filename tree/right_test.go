package tree_test

import (
	"math"
	"math/rand"
	"reflect"
	"slices"
	"strings"
	"testing"

	"wafer/api"
	"wafer/tree"
)

// wantNode: the error of a node.
func wantNode(t *testing.T, n Node, want api.Errno) {
	t.Helper()
	if got := ask(n); got != want {
		t.Errorf("%T %s: %d, want %d", n, brief(n), got, want)
	}
}

// wantUnit: what Right answers of declarations.
func wantUnit(t *testing.T, l []api.Dec, at int, want api.Errno) {
	t.Helper()
	if gotAt, got := tree.Right(l); gotAt != at || got != want {
		t.Errorf("Right of %d declarations: %d, %d, want %d, %d", len(l), gotAt, got, at, want)
	}
}

func TestF41Examples(t *testing.T) {
	wantNode(t, use("A.x"), api.OK)
	wantNode(t, use("a.x"), api.ErrName)
	wantNode(t, use("A"), api.ErrName)
	wantNode(t, api.Exp{Kind: api.EFn}, api.ErrArg)
	wantNode(t, api.Exp{Kind: api.EFn, Kids: list(number(1))}, api.ErrArg)
	wantNode(t, number(-1), api.ErrArg)
	wantNode(t, api.Exp{Kind: api.ELet, Kids: list(number(1))}, api.OK)
	wantNode(t, api.Exp{Kind: api.ELet, Kids: list(number(1)), Decs: list(api.Dec{Kind: api.DType, Name: "t", Tys: list(word("int"))})}, api.ErrArg)
	wantNode(t, word("int"), api.OK)
	wantNode(t, word("A.int"), api.ErrName)
}

func TestF41EveryKindRight(t *testing.T) {
	kinds := map[string]int{}
	for _, n := range rights() {
		wantNode(t, n, api.OK)
		hold(t, n)
		v := reflect.ValueOf(n)
		if k := v.FieldByName("Kind"); k.IsValid() {
			kinds[v.Type().Name()] |= 1 << k.Int()
		}
	}
	for sort, greatest := range map[string]int{"Ty": 4, "Pat": 8, "Exp": 14, "Dec": 7, "Mod": 6, "Sig": 3, "Spec": 4} {
		if kinds[sort] != 1<<(greatest+1)-2 {
			t.Errorf("the right nodes have not every kind of %s: %b", sort, kinds[sort])
		}
	}
}

func TestF41KindsAndOperatorsThatAreNone(t *testing.T) {
	greatest := map[string]int{"Ty": 4, "Pat": 8, "Exp": 14, "Dec": 7, "Mod": 6, "Sig": 3, "Spec": 4}
	for _, n := range rights() {
		sort := reflect.TypeOf(n).Name()
		if sort == "Con" {
			continue
		}
		for _, kind := range []int{math.MinInt, -1, 0, greatest[sort] + 1, math.MaxInt} {
			wantNode(t, with(n, "Kind", kind), api.ErrArg)
		}
		if sort == "Exp" {
			for _, op := range []int{math.MinInt, -1, 7, math.MaxInt} {
				wantNode(t, with(n, "Op", op), api.ErrArg)
			}
		}
	}
	for _, n := range []Node{api.Ty{}, api.Pat{}, api.Exp{}, api.Dec{}, api.Mod{}, api.Sig{}, api.Spec{}} {
		wantNode(t, n, api.ErrArg)
	}
	wantNode(t, api.Exp{Kind: api.EBin, Kids: list(number(1), number(2))}, api.ErrArg)
}

func TestF41NumbersAndPlaces(t *testing.T) {
	for n, want := range map[int64]api.Errno{math.MinInt64: api.ErrArg, -1: api.ErrArg, 0: api.OK, 1: api.OK, math.MaxInt64: api.OK} {
		wantNode(t, number(n), want)
		wantNode(t, api.Pat{Kind: api.PInt, N: n}, want)
	}
	for _, n := range rights() {
		for _, f := range fields(n) {
			if f == "At" {
				for _, at := range []int{math.MinInt, -1, 0, 1, math.MaxInt} {
					wantNode(t, with(n, f, at), api.OK)
				}
			}
		}
	}
}

// one: a right node of the sort of which a list is made.
func one(f reflect.Value) reflect.Value {
	switch f.Type().Elem().Name() {
	case "Ty":
		return reflect.ValueOf(api.Ty{Kind: api.YVar, Name: "a"})
	case "Pat":
		return reflect.ValueOf(bind("x"))
	case "Exp":
		return reflect.ValueOf(number(1))
	case "Dec":
		return reflect.ValueOf(val("x", number(1)))
	case "Con":
		return reflect.ValueOf(api.Con{Name: "A"})
	case "Mod":
		return reflect.ValueOf(modPath("M"))
	case "Sig":
		return reflect.ValueOf(sigPath("S"))
	case "Spec":
		return reflect.ValueOf(typeSpec("t"))
	}
	return reflect.ValueOf("x")
}

func TestF41FieldsThatAKindDoesNotHave(t *testing.T) {
	tried := 0
	for _, n := range rights() {
		v := reflect.ValueOf(n)
		kind := 0
		if k := v.FieldByName("Kind"); k.IsValid() {
			kind = int(k.Int())
		}
		w, _ := words(v.Type().Name(), kind)
		for _, name := range fields(n) {
			f := v.FieldByName(name)
			if _, has := rule(w, name); has || name == "Kind" || name == "At" {
				continue
			}
			tried++
			switch f.Kind() {
			case reflect.Slice:
				// A list without an element is none, be it nil or empty.
				wantNode(t, with(n, name, reflect.MakeSlice(f.Type(), 0, 0).Interface()), api.OK)
				wantNode(t, with(n, name, nil), api.OK)
				for size := 1; size <= 3; size++ {
					l := reflect.MakeSlice(f.Type(), 0, size)
					for range size {
						l = reflect.Append(l, one(f))
					}
					wantNode(t, with(n, name, l.Interface()), api.ErrArg)
				}
				wantNode(t, with(n, name, reflect.MakeSlice(f.Type(), 1, 1).Interface()), api.ErrArg)
			case reflect.String:
				for _, s := range []string{"x", "X", " ", "int"} {
					wantNode(t, with(n, name, s), api.ErrArg)
				}
			default:
				for _, k := range []int{-1, 1, 2, 6, math.MaxInt} {
					wantNode(t, with(n, name, k), api.ErrArg)
				}
			}
		}
	}
	if tried < 100 {
		t.Errorf("only %d fields were tried", tried)
	}
}

func TestF41ListsOfAnotherLength(t *testing.T) {
	for _, x := range []struct {
		n     Node
		field string
		right []int
	}{
		{api.Ty{Kind: api.YFn}, "Kids", []int{2}}, {api.Ty{Kind: api.YPair}, "Kids", []int{2}},
		{api.Pat{Kind: api.PPair}, "Kids", []int{2}}, {api.Pat{Kind: api.PCon, Path: path("A")}, "Kids", []int{0, 1}},
		{api.Exp{Kind: api.EFn, Pats: list(bind("x"))}, "Kids", []int{1}}, {api.Exp{Kind: api.EFn, Kids: list(use("x"))}, "Pats", []int{1}},
		{api.Exp{Kind: api.EApp}, "Kids", []int{2}}, {api.Exp{Kind: api.EPair}, "Kids", []int{2}},
		{api.Exp{Kind: api.EIf}, "Kids", []int{3}}, {api.Exp{Kind: api.EBin, Op: api.OEq}, "Kids", []int{2}},
		{api.Exp{Kind: api.ELet}, "Kids", []int{1}}, {api.Exp{Kind: api.EAnn, Tys: list(word("int"))}, "Kids", []int{1}},
		{api.Exp{Kind: api.EAnn, Kids: list(use("x"))}, "Tys", []int{1}},
		{api.Exp{Kind: api.ELet, Kids: list(use("x"))}, "Decs", []int{0, 1, 2, 3, 4}},
		{val("x", use("y")), "Tys", []int{0, 1}}, {val("x", use("y")), "Exps", []int{1}},
		{api.Dec{Kind: api.DFun, Name: "f", Exps: list(use("y"))}, "Params", []int{1, 2, 3, 4}},
		{api.Dec{Kind: api.DFun, Name: "f", Params: list("x"), Exps: list(use("y"))}, "Tys", []int{0, 1}},
		{api.Dec{Kind: api.DFun, Name: "f", Params: list("x")}, "Exps", []int{1}}, {api.Dec{Kind: api.DType, Name: "t"}, "Tys", []int{1}},
		{api.Dec{Kind: api.DData, Name: "t"}, "Cons", []int{1, 2, 3, 4}}, {structure("M", modPath("M")), "Mods", []int{1}},
		{api.Dec{Kind: api.DSig, Name: "S"}, "Sigs", []int{1}},
		{api.Dec{Kind: api.DFunctor, Name: "F", Params: list("X"), Sigs: list(sigPath("S"))}, "Mods", []int{1}},
		{api.Dec{Kind: api.DFunctor, Name: "F", Params: list("X"), Mods: list(modPath("M"))}, "Sigs", []int{1}},
		{api.Con{Name: "A"}, "Tys", []int{0, 1}}, {api.Mod{Kind: api.MStruct}, "Decs", []int{0, 1, 2, 3, 4}},
		{api.Mod{Kind: api.MApp, Path: path("F")}, "Mods", []int{1}}, {api.Mod{Kind: api.MLet}, "Mods", []int{1}},
		{api.Mod{Kind: api.MLet, Mods: list(modPath("M"))}, "Decs", []int{0, 1, 2, 3, 4}},
		{api.Mod{Kind: api.MAsc, Sigs: list(sigPath("S"))}, "Mods", []int{1}}, {api.Mod{Kind: api.MAsc, Mods: list(modPath("M"))}, "Sigs", []int{1}},
		{api.Mod{Kind: api.MSeal, Sigs: list(sigPath("S"))}, "Mods", []int{1}}, {api.Mod{Kind: api.MSeal, Mods: list(modPath("M"))}, "Sigs", []int{1}},
		{api.Sig{Kind: api.SSig}, "Specs", []int{0, 1, 2, 3, 4}},
		{api.Sig{Kind: api.SWhere, Path: path("t"), Tys: list(word("int"))}, "Sigs", []int{1}},
		{api.Sig{Kind: api.SWhere, Path: path("t"), Sigs: list(sigPath("S"))}, "Tys", []int{1}},
		{api.Spec{Kind: api.CVal, Name: "x"}, "Tys", []int{1}}, {typeSpec("t"), "Tys", []int{0, 1}},
		{api.Spec{Kind: api.CData, Name: "t"}, "Cons", []int{1, 2, 3, 4}}, {api.Spec{Kind: api.CStr, Name: "M"}, "Sigs", []int{1}},
	} {
		f := reflect.ValueOf(x.n).FieldByName(x.field)
		for size := range 5 {
			l := reflect.MakeSlice(f.Type(), 0, size)
			for range size {
				l = reflect.Append(l, one(f))
			}
			want := api.ErrArg
			if slices.Contains(x.right, size) {
				want = api.OK
			}
			wantNode(t, with(x.n, x.field, l.Interface()), want)
			if size == 0 {
				wantNode(t, with(x.n, x.field, nil), want)
			}
		}
	}
}

func TestF41FunctorsHaveOneParameter(t *testing.T) {
	f := api.Dec{Kind: api.DFunctor, Name: "F", Mods: list(modPath("M")), Sigs: list(sigPath("S"))}
	for size, want := range []api.Errno{api.ErrArg, api.OK, api.ErrArg, api.ErrArg} {
		wantNode(t, with(f, "Params", slices.Repeat(list("X"), size)), want)
	}
	wantNode(t, with(f, "Params", list("x")), api.ErrName)
}

func TestF41CasesHaveOneKidMoreThanPatterns(t *testing.T) {
	for pats := range 5 {
		for kids := range 7 {
			want := api.ErrArg
			if pats >= 1 && kids == pats+1 {
				want = api.OK
			}
			wantNode(t, api.Exp{Kind: api.ECase, Pats: slices.Repeat(list(bind("x")), pats), Kids: slices.Repeat(list(number(1)), kids)}, want)
		}
	}
}

func TestF41LetsHaveValAndFunAlone(t *testing.T) {
	for _, n := range rights() {
		d, ok := n.(api.Dec)
		if !ok {
			continue
		}
		want := api.ErrArg
		if d.Kind == api.DVal || d.Kind == api.DFun {
			want = api.OK
		}
		let := api.Exp{Kind: api.ELet, Kids: list(number(1))}
		wantNode(t, with(let, "Decs", list(d)), want)
		wantNode(t, with(let, "Decs", list(val("x", number(1)), d)), want)
		wantNode(t, with(let, "Decs", list(d, val("x", number(1)))), want)
		wantNode(t, api.Mod{Kind: api.MStruct, Decs: list(d)}, api.OK)
		wantNode(t, api.Mod{Kind: api.MLet, Decs: list(d), Mods: list(modPath("M"))}, api.OK)
		// What a let may not have is told ahead of what is wrong in a part of it.
		wrong := with(let, "Decs", list(val("X", number(1)), d)).(api.Exp)
		if want == api.OK {
			want = api.ErrName
		}
		wantNode(t, wrong, want)
		wrong.Kids = list(use("X"))
		wantNode(t, wrong, want)
	}
	for _, kind := range []int{-1, 0, 8} {
		wantNode(t, api.Exp{Kind: api.ELet, Kids: list(use("X")), Decs: list(api.Dec{Kind: kind})}, api.ErrArg)
	}
}

// spelled: names, and the error of each as a low name, a high name, a type variable's.
func spelled() []struct {
	s                string
	low, high, tyvar api.Errno
} {
	a, b := strings.Repeat("a", 33), strings.Repeat("B", 33)
	return []struct {
		s                string
		low, high, tyvar api.Errno
	}{
		{"", api.ErrName, api.ErrName, api.ErrName}, {"x", api.OK, api.ErrName, api.OK}, {"X", api.ErrName, api.OK, api.ErrName},
		{"x9", api.OK, api.ErrName, api.OK}, {"x_1", api.OK, api.ErrName, api.ErrName}, {"xY", api.OK, api.ErrName, api.ErrName}, {"Xy", api.ErrName, api.OK, api.ErrName},
		{"if", api.ErrName, api.ErrName, api.OK}, {"int", api.ErrName, api.ErrName, api.OK}, {"bool", api.ErrName, api.ErrName, api.OK}, {"unit", api.ErrName, api.ErrName, api.OK},
		{"Int", api.ErrName, api.OK, api.ErrName}, {"9", api.ErrName, api.ErrName, api.ErrName}, {"_", api.ErrName, api.ErrName, api.ErrName},
		{"'a", api.ErrName, api.ErrName, api.ErrName}, {"x'", api.ErrName, api.ErrName, api.ErrName}, {"A.x", api.ErrName, api.ErrName, api.ErrName},
		{"\xe1", api.ErrName, api.ErrName, api.ErrName}, {a + ".", api.ErrName, api.ErrName, api.ErrName},
		{a[:31], api.OK, api.ErrName, api.OK}, {a[:32], api.OK, api.ErrName, api.ErrName}, {b[:32], api.ErrName, api.OK, api.ErrName},
		{a, api.ErrBig, api.ErrBig, api.ErrBig}, {b, api.ErrBig, api.ErrBig, api.ErrBig},
	}
}

func TestF41Names(t *testing.T) {
	for _, x := range spelled() {
		wantNode(t, api.Ty{Kind: api.YVar, Name: x.s}, x.tyvar)
		for _, n := range rights() {
			switch y := n.(type) {
			case api.Pat:
				if y.Kind == api.PVar {
					wantNode(t, with(n, "Name", x.s), x.low)
				}
			case api.Dec:
				want := x.low
				if y.Kind >= api.DStr {
					want = x.high
				}
				wantNode(t, with(n, "Name", x.s), want)
				for i := range y.Params {
					params := slices.Clone(y.Params)
					params[i] = x.s
					wantNode(t, with(n, "Params", params), want)
				}
			case api.Spec:
				want := x.low
				if y.Kind == api.CStr {
					want = x.high
				}
				wantNode(t, with(n, "Name", x.s), want)
			case api.Con:
				wantNode(t, with(n, "Name", x.s), x.high)
			}
		}
	}
}

// routes: paths, and the error of each with a low last name, with a high one, as a type's.
func routes() []struct {
	p               []string
	low, high, kind api.Errno
} {
	type row = struct {
		p               []string
		low, high, kind api.Errno
	}
	var all []row
	for _, x := range spelled() {
		kind := x.low
		if x.s == "int" || x.s == "bool" || x.s == "unit" {
			kind = api.OK
		}
		all = append(all, row{[]string{x.s}, x.low, x.high, kind}, row{[]string{"A", x.s}, x.low, x.high, x.low}, row{[]string{x.s, "x"}, x.high, worse(x.high), x.high}, row{[]string{x.s, "X"}, worse(x.high), x.high, worse(x.high)})
	}
	seven := slices.Repeat(list("A"), 7)
	eight := slices.Repeat(list("A"), 8)
	return append(all,
		row{nil, api.ErrArg, api.ErrArg, api.ErrArg}, row{[]string{}, api.ErrArg, api.ErrArg, api.ErrArg},
		row{append(seven[:7:7], "x"), api.OK, api.ErrName, api.OK}, row{append(seven[:7:7], "X"), api.ErrName, api.OK, api.ErrName},
		row{append(eight[:8:8], "x"), api.ErrBig, api.ErrBig, api.ErrBig}, row{append(eight[:8:8], "X"), api.ErrBig, api.ErrBig, api.ErrBig},
		row{slices.Repeat(list("int"), 9), api.ErrBig, api.ErrBig, api.ErrBig}, row{list("A", "b", "x"), api.ErrName, api.ErrName, api.ErrName},
		row{list("int", "int"), api.ErrName, api.ErrName, api.ErrName}, row{list("a", strings.Repeat("a", 33)), api.ErrName, api.ErrName, api.ErrName},
		row{list("A", strings.Repeat("a", 33)), api.ErrBig, api.ErrBig, api.ErrBig},
	)
}

// worse: what a path has whose last name is of the wrong sort, if the names ahead of it have the error e.
func worse(e api.Errno) api.Errno {
	if e == api.OK {
		return api.ErrName
	}
	return e
}

func TestF41Paths(t *testing.T) {
	for _, x := range routes() {
		wantNode(t, api.Ty{Kind: api.YCon, Path: x.p}, x.kind)
		wantNode(t, api.Exp{Kind: api.EVar, Path: x.p}, x.low)
		wantNode(t, api.Sig{Kind: api.SWhere, Path: x.p, Sigs: list(sigPath("S")), Tys: list(word("int"))}, x.low)
		for _, n := range []Node{
			api.Pat{Kind: api.PCon, Path: x.p}, api.Pat{Kind: api.PCon, Path: x.p, Kids: list(bind("x"))}, api.Exp{Kind: api.ECon, Path: x.p},
			api.Mod{Kind: api.MPath, Path: x.p}, api.Mod{Kind: api.MApp, Path: x.p, Mods: list(modPath("M"))}, api.Sig{Kind: api.SPath, Path: x.p},
		} {
			wantNode(t, n, x.high)
		}
	}
}

func TestF41OwnErrorsInTheirOrder(t *testing.T) {
	big, bad := strings.Repeat("a", 33), "9"
	// What it has or has not is told ahead of its names, these ahead of its parts.
	wantNode(t, api.Dec{Kind: api.DVal, Name: bad}, api.ErrArg)
	wantNode(t, api.Dec{Kind: api.DVal, Name: big, Exps: list(number(-1), number(1))}, api.ErrArg)
	wantNode(t, val(big, number(-1)), api.ErrBig)
	wantNode(t, val(bad, number(-1)), api.ErrName)
	wantNode(t, val("x", number(-1)), api.ErrArg)
	wantNode(t, api.Exp{Kind: api.EVar, Path: list(big), Kids: list(number(1))}, api.ErrArg)
	wantNode(t, api.Pat{Kind: api.PCon, Path: list(big), Kids: list(api.Pat{})}, api.ErrBig)
	wantNode(t, api.Exp{Kind: api.EIf, Kids: list(use(big), use(bad))}, api.ErrArg)
	// Name stands ahead of Params, and these stand in their order.
	fun := api.Dec{Kind: api.DFun, Name: "f", Params: list("x", "y"), Exps: list(number(-1))}
	for _, x := range []struct {
		name   string
		params []string
		want   api.Errno
	}{
		{"f", list("x"), api.ErrArg}, {big, list(bad), api.ErrBig}, {bad, list(big), api.ErrName}, {"f", list(big, bad), api.ErrBig},
		{"f", list(bad, big), api.ErrName}, {"f", list("x", big), api.ErrBig}, {"F", list(big), api.ErrName}, {bad, nil, api.ErrArg},
	} {
		wantNode(t, with(with(fun, "Name", x.name), "Params", x.params), x.want)
	}
}

func TestF41PartsInTheOrderOfTheFields(t *testing.T) {
	big := strings.Repeat("a", 33)
	bigTy, badTy, noTy := word(big), word("9"), api.Ty{}
	bigExp, badExp, noExp := use(big), use("9"), api.Exp{}
	bigPat, badPat, noPat := bind(big), bind("9"), api.Pat{}
	bigMod, badMod, noMod := modPath(big), modPath("9"), api.Mod{}
	bigSig, badSig, noSig := sigPath(big), sigPath("9"), api.Sig{}
	wantNode(t, api.Ty{Kind: api.YFn, Kids: list(bigTy, badTy)}, api.ErrBig)
	wantNode(t, api.Ty{Kind: api.YPair, Kids: list(badTy, bigTy)}, api.ErrName)
	wantNode(t, api.Ty{Kind: api.YPair, Kids: list(word("int"), noTy)}, api.ErrArg)
	wantNode(t, api.Pat{Kind: api.PPair, Kids: list(bigPat, badPat)}, api.ErrBig)
	wantNode(t, api.Pat{Kind: api.PPair, Kids: list(noPat, badPat)}, api.ErrArg)
	wantNode(t, api.Exp{Kind: api.EFn, Pats: list(bigPat), Kids: list(badExp)}, api.ErrBig)
	wantNode(t, api.Exp{Kind: api.EFn, Pats: list(badPat), Kids: list(noExp)}, api.ErrName)
	wantNode(t, api.Exp{Kind: api.ECase, Pats: list(bind("x"), bigPat), Kids: list(noExp, noExp, noExp)}, api.ErrBig)
	wantNode(t, api.Exp{Kind: api.ELet, Decs: list(val(big, noExp)), Kids: list(badExp)}, api.ErrName)
	wantNode(t, api.Exp{Kind: api.ELet, Decs: list(val("x", badExp)), Kids: list(bigExp)}, api.ErrBig)
	wantNode(t, api.Exp{Kind: api.ELet, Decs: list(val(big, badExp)), Kids: list(use("x"))}, api.ErrBig)
	wantNode(t, api.Exp{Kind: api.EAnn, Kids: list(bigExp), Tys: list(badTy)}, api.ErrBig)
	wantNode(t, api.Exp{Kind: api.EAnn, Kids: list(badExp), Tys: list(noTy)}, api.ErrName)
	wantNode(t, api.Dec{Kind: api.DVal, Name: "x", Tys: list(bigTy), Exps: list(badExp)}, api.ErrBig)
	wantNode(t, api.Dec{Kind: api.DVal, Name: "x", Tys: list(word("int")), Exps: list(badExp)}, api.ErrName)
	wantNode(t, api.Dec{Kind: api.DFunctor, Name: "F", Params: list("X"), Mods: list(bigMod), Sigs: list(badSig)}, api.ErrBig)
	wantNode(t, api.Dec{Kind: api.DFunctor, Name: "F", Params: list("X"), Mods: list(badMod), Sigs: list(bigSig)}, api.ErrName)
	wantNode(t, api.Dec{Kind: api.DFunctor, Name: "F", Params: list("X"), Mods: list(modPath("M")), Sigs: list(noSig)}, api.ErrArg)
	wantNode(t, api.Dec{Kind: api.DData, Name: "t", Cons: list(api.Con{Name: "A", Tys: list(badTy)}, api.Con{Name: big})}, api.ErrName)
	wantNode(t, api.Dec{Kind: api.DData, Name: "t", Cons: list(api.Con{Name: big, Tys: list(badTy)}, api.Con{})}, api.ErrBig)
	wantNode(t, api.Con{Name: big, Tys: list(word("int"), word("int"))}, api.ErrArg)
	wantNode(t, api.Mod{Kind: api.MLet, Decs: list(val(big, number(1))), Mods: list(badMod)}, api.ErrBig)
	wantNode(t, api.Mod{Kind: api.MLet, Decs: list(val("9", number(1))), Mods: list(bigMod)}, api.ErrName)
	wantNode(t, api.Mod{Kind: api.MSeal, Mods: list(bigMod), Sigs: list(badSig)}, api.ErrBig)
	wantNode(t, api.Mod{Kind: api.MAsc, Mods: list(badMod), Sigs: list(bigSig)}, api.ErrName)
	wantNode(t, api.Mod{Kind: api.MApp, Path: list(big), Mods: list(noMod)}, api.ErrBig)
	wantNode(t, api.Sig{Kind: api.SWhere, Path: list("t"), Sigs: list(bigSig), Tys: list(badTy)}, api.ErrBig)
	wantNode(t, api.Sig{Kind: api.SWhere, Path: list("t"), Sigs: list(badSig), Tys: list(bigTy)}, api.ErrName)
	wantNode(t, api.Sig{Kind: api.SWhere, Path: list("9"), Sigs: list(bigSig), Tys: list(noTy)}, api.ErrName)
	wantNode(t, api.Sig{Kind: api.SSig, Specs: list(typeSpec(big), typeSpec("9"))}, api.ErrBig)
	wantNode(t, api.Spec{Kind: api.CVal, Name: big, Tys: list(badTy)}, api.ErrBig)
	wantNode(t, api.Spec{Kind: api.CStr, Name: "9", Sigs: list(bigSig)}, api.ErrName)
	// The first part is told with all that stands in it ahead of the second one, be that wrong by itself.
	wantNode(t, api.Exp{Kind: api.EPair, Kids: list(api.Exp{Kind: api.EPair, Kids: list(number(1), bigExp)}, noExp)}, api.ErrBig)
}

// values: what a field is tried with.
func values(f reflect.Value, name string) []any {
	switch {
	case name == "Kind" || name == "Op":
		return []any{-1, 0, 1, 2, 3, 4, 5, 6, 7, 8, 9, 10, 11, 12, 13, 14, 15, math.MaxInt}
	case name == "N":
		return []any{int64(math.MinInt64), int64(-1), int64(0), int64(1), int64(math.MaxInt64)}
	case name == "At":
		return []any{math.MinInt, 0, 1}
	case f.Kind() == reflect.String:
		return []any{"", "x", "X", "if", "int", "9", strings.Repeat("a", 33)}
	case !nodes(f):
		return []any{nil, list("x"), list("X"), list("int"), list("A", "x"), list("a", "X"), list("x", strings.Repeat("a", 33)), slices.Repeat(list("A"), 9)}
	}
	var all []any
	for size := range 4 {
		l := reflect.MakeSlice(f.Type(), 0, 4)
		for range size {
			l = reflect.Append(l, one(f))
		}
		all = append(all, l.Interface())
		for i := range size {
			wrong := twinOf(l)
			if name := wrong.Index(i).FieldByName("Name"); name.IsValid() {
				name.SetString(strings.Repeat("a", 33))
				all = append(all, wrong.Interface())
			}
			wrong = twinOf(l)
			wrong.Index(i).SetZero()
			all = append(all, wrong.Interface())
		}
	}
	return all
}

func TestF41OneAndTwoFieldsChanged(t *testing.T) {
	for _, n := range rights() {
		names := fields(n)
		tries := map[string][]any{}
		for _, name := range names {
			tries[name] = values(reflect.ValueOf(n).FieldByName(name), name)
		}
		for i, a := range names {
			for _, x := range tries[a] {
				once := with(n, a, x)
				hold(t, once)
				for _, b := range names[i+1:] {
					for _, y := range tries[b] {
						hold(t, with(once, b, y))
					}
				}
			}
		}
	}
}

func TestF41ManyNodesWithSomeChanged(t *testing.T) {
	chance := rand.New(rand.NewSource(4))
	all := pool()
	sorts := []Node{api.Ty{}, api.Pat{}, api.Exp{}, api.Dec{}, api.Con{}, api.Mod{}, api.Sig{}, api.Spec{}}
	for i := range 8000 {
		v := grow(chance, all, reflect.TypeOf(sorts[i%len(sorts)]), 1+chance.Intn(6))
		wantNode(t, v.Interface(), api.OK)
		for range 3 {
			change(chance, v)
			hold(t, v.Interface())
		}
	}
}

func TestF41DeclarationsInTheirOrder(t *testing.T) {
	good, bad, big := val("x", number(1)), val("9", number(1)), val(strings.Repeat("a", 33), number(1))
	wantUnit(t, nil, 0, api.OK)
	wantUnit(t, []api.Dec{}, 0, api.OK)
	wantUnit(t, list(good), 0, api.OK)
	wantUnit(t, list(good, good, good), 0, api.OK)
	wantUnit(t, list(bad), 0, api.ErrName)
	wantUnit(t, list(bad, good), 0, api.ErrName)
	wantUnit(t, list(good, bad), 1, api.ErrName)
	wantUnit(t, list(good, good, api.Dec{}), 2, api.ErrArg)
	wantUnit(t, list(good, bad, big), 1, api.ErrName)
	wantUnit(t, list(good, big, bad), 1, api.ErrBig)
	wantUnit(t, list(good, val("x", number(-1)), bad), 1, api.ErrArg)
	// A name that stands twice is not asked.
	wantUnit(t, list(good, good, structure("M", api.Mod{Kind: api.MStruct, Decs: list(good, good)})), 0, api.OK)
}

func TestP404First(t *testing.T) {
	chance := rand.New(rand.NewSource(404))
	all, dec := pool(), reflect.TypeOf(api.Dec{})
	for range 2000 {
		var l []api.Dec
		for range chance.Intn(4) {
			l = append(l, grow(chance, all, dec, 3).Interface().(api.Dec))
		}
		first := len(l)
		l = append(l, list(val("9", number(1)), val(strings.Repeat("a", 33), number(1)), api.Dec{})[chance.Intn(3)])
		at, e := tree.Right(l)
		if at != first || e == api.OK {
			t.Fatalf("Right: %d, %d, want %d and an error", at, e, first)
		}
		for range chance.Intn(4) {
			v := grow(chance, all, dec, 3)
			v.FieldByName("Kind").SetInt(int64(chance.Intn(9)))
			l = append(l, v.Interface().(api.Dec))
			wantUnit(t, l, at, e)
		}
	}
}
