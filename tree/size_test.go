package tree_test

import (
	"math/rand"
	"reflect"
	"slices"
	"strings"
	"testing"

	"wafer/api"
	"wafer/tree"
)

// wantSize: Nodes and Depth of declarations.
func wantSize(t *testing.T, l []api.Dec, many, deep int) {
	t.Helper()
	if m, d := tree.Nodes(l), tree.Depth(l); m != many || d != deep {
		t.Errorf("Nodes, Depth of %s: %d, %d, want %d, %d", brief(l), m, d, many, deep)
	}
}

func TestF42NodesAndDepth(t *testing.T) {
	pair := api.Exp{Kind: api.EPair, Kids: list(number(1), number(2))}
	wantSize(t, nil, 0, 0)
	wantSize(t, []api.Dec{}, 0, 0)
	wantSize(t, list(val("x", pair)), 4, 3)
	wantSize(t, list(val("x", number(1))), 2, 2)
	wantSize(t, list(val("x", number(1)), val("x", pair), val("x", number(1))), 8, 3)
	wantSize(t, list(api.Dec{Kind: api.DData, Name: "t", Cons: list(api.Con{Name: "A"}, api.Con{Name: "B", Tys: list(word("int"))})}), 4, 3)
	wantSize(t, list(api.Dec{Kind: api.DFun, Name: "f", Params: list("x", "y", "z"), Exps: list(number(1))}), 2, 2)
	wantSize(t, list(structure("M", api.Mod{Kind: api.MStruct})), 2, 2)
	wantSize(t, list(structure("M", api.Mod{Kind: api.MSeal, Mods: list(api.Mod{Kind: api.MStruct, Decs: list(val("x", pair))}), Sigs: list(api.Sig{Kind: api.SSig, Specs: list(typeSpec("t"))})})), 9, 6)
	wantSize(t, list(val("x", api.Exp{Kind: api.ECase, Pats: list(bind("x")), Kids: list(number(1), number(2))})), 5, 3)
}

func TestF42NodesAndDepthOfWhatIsNotRight(t *testing.T) {
	wantSize(t, make([]api.Dec, 3), 3, 1)
	// Every field counts, whatever the kind has.
	all := api.Dec{
		Tys: make([]api.Ty, 1), Exps: list(api.Exp{Pats: make([]api.Pat, 2), Kids: make([]api.Exp, 3), Decs: make([]api.Dec, 4), Tys: make([]api.Ty, 5)}),
		Cons: list(api.Con{Tys: make([]api.Ty, 6)}), Mods: list(api.Mod{Decs: make([]api.Dec, 7), Mods: make([]api.Mod, 8), Sigs: make([]api.Sig, 9)}),
		Sigs: list(api.Sig{Sigs: make([]api.Sig, 10), Tys: make([]api.Ty, 11), Specs: list(api.Spec{Tys: make([]api.Ty, 12), Cons: make([]api.Con, 13), Sigs: make([]api.Sig, 14)})}),
	}
	wantSize(t, list(all), 1+1+(1+2+3+4+5)+(1+6)+(1+7+8+9)+(1+10+11)+(1+12+13+14), 4)
	wantSize(t, list(api.Dec{Tys: list(api.Ty{Name: "x", Path: path("a.b"), Kids: list(api.Ty{Kids: make([]api.Ty, 3)})})}), 6, 4)
}

func TestF42EveryListOfNodesCounts(t *testing.T) {
	for _, sort := range []Node{api.Ty{}, api.Pat{}, api.Exp{}, api.Dec{}, api.Con{}, api.Mod{}, api.Sig{}, api.Spec{}} {
		for _, name := range fields(sort) {
			f := reflect.ValueOf(sort).FieldByName(name)
			if !nodes(f) {
				continue
			}
			for size := range 3 {
				n := with(sort, name, reflect.MakeSlice(f.Type(), size, size).Interface())
				l := list(lay(n))
				m, d := slowSize(reflect.ValueOf(l[0]))
				wantSize(t, l, m, d)
			}
		}
	}
}

// lay: a declaration in which a node of any sort stands.
func lay(n Node) api.Dec {
	switch x := n.(type) {
	case api.Ty:
		return api.Dec{Kind: api.DType, Name: "t", Tys: list(x)}
	case api.Pat:
		return val("x", api.Exp{Kind: api.EFn, Pats: list(x), Kids: list(number(1))})
	case api.Exp:
		return val("x", x)
	case api.Con:
		return api.Dec{Kind: api.DData, Name: "t", Cons: list(x)}
	case api.Mod:
		return structure("M", x)
	case api.Sig:
		return api.Dec{Kind: api.DSig, Name: "S", Sigs: list(x)}
	case api.Spec:
		return api.Dec{Kind: api.DSig, Name: "S", Sigs: list(api.Sig{Kind: api.SSig, Specs: list(x)})}
	}
	return n.(api.Dec)
}

func TestP403Counting(t *testing.T) {
	chance := rand.New(rand.NewSource(403))
	all, dec := pool(), reflect.TypeOf(api.Dec{})
	some := func() (l []api.Dec) {
		for range chance.Intn(4) {
			v := grow(chance, all, dec, chance.Intn(5))
			if chance.Intn(3) == 0 {
				s := spots(v)
				s[chance.Intn(len(s))].Field(0).SetZero()
			}
			l = append(l, v.Interface().(api.Dec))
		}
		return l
	}
	for range 2000 {
		a, b := some(), some()
		both := slices.Concat(a, b)
		wantSize(t, both, tree.Nodes(a)+tree.Nodes(b), max(tree.Depth(a), tree.Depth(b)))
		many, deep := 0, 0
		for _, d := range both {
			m, n := slowSize(reflect.ValueOf(d))
			many, deep = many+m, max(deep, n)
		}
		wantSize(t, both, many, deep)
	}
}

// wraps: for each way in which a sort of node can stand in one of its own sort, a right node with another one in it so.
func wraps() map[string]func(Node) Node {
	in, s, m, y := word("int"), sigPath("S"), modPath("M"), use("y")
	return map[string]func(Node) Node{
		"YFn first":   func(n Node) Node { return api.Ty{Kind: api.YFn, Kids: list(n.(api.Ty), in)} },
		"YFn second":  func(n Node) Node { return api.Ty{Kind: api.YFn, Kids: list(in, n.(api.Ty))} },
		"YPair":       func(n Node) Node { return pairTy(in, n.(api.Ty)) },
		"PPair":       func(n Node) Node { return api.Pat{Kind: api.PPair, Kids: list(bind("x"), n.(api.Pat))} },
		"PCon":        func(n Node) Node { return api.Pat{Kind: api.PCon, Path: path("A"), Kids: list(n.(api.Pat))} },
		"EFn":         func(n Node) Node { return api.Exp{Kind: api.EFn, Pats: list(bind("x")), Kids: list(n.(api.Exp))} },
		"EApp first":  func(n Node) Node { return api.Exp{Kind: api.EApp, Kids: list(n.(api.Exp), y)} },
		"EApp second": func(n Node) Node { return api.Exp{Kind: api.EApp, Kids: list(y, n.(api.Exp))} },
		"EPair":       func(n Node) Node { return api.Exp{Kind: api.EPair, Kids: list(y, n.(api.Exp))} },
		"ELet":        func(n Node) Node { return api.Exp{Kind: api.ELet, Kids: list(n.(api.Exp))} },
		"ELet DVal": func(n Node) Node {
			return api.Exp{Kind: api.ELet, Decs: list(val("x", n.(api.Exp))), Kids: list(y)}
		},
		"ELet DFun": func(n Node) Node {
			return api.Exp{Kind: api.ELet, Decs: list(api.Dec{Kind: api.DFun, Name: "f", Params: list("x"), Exps: list(n.(api.Exp))}), Kids: list(y)}
		},
		"EIf":   func(n Node) Node { return api.Exp{Kind: api.EIf, Kids: list(y, y, n.(api.Exp))} },
		"ECase": func(n Node) Node { return api.Exp{Kind: api.ECase, Pats: list(bind("x")), Kids: list(y, n.(api.Exp))} },
		"EBin":  func(n Node) Node { return api.Exp{Kind: api.EBin, Op: api.OAdd, Kids: list(n.(api.Exp), y)} },
		"EAnn":  func(n Node) Node { return api.Exp{Kind: api.EAnn, Kids: list(n.(api.Exp)), Tys: list(in)} },
		"MApp":  func(n Node) Node { return api.Mod{Kind: api.MApp, Path: path("F"), Mods: list(n.(api.Mod))} },
		"MAsc":  func(n Node) Node { return api.Mod{Kind: api.MAsc, Mods: list(n.(api.Mod)), Sigs: list(s)} },
		"MSeal": func(n Node) Node { return api.Mod{Kind: api.MSeal, Mods: list(n.(api.Mod)), Sigs: list(s)} },
		"MLet":  func(n Node) Node { return api.Mod{Kind: api.MLet, Mods: list(n.(api.Mod))} },
		"SWhere": func(n Node) Node {
			return api.Sig{Kind: api.SWhere, Path: path("t"), Sigs: list(n.(api.Sig)), Tys: list(in)}
		},
		"MStruct DStr": func(n Node) Node {
			return api.Mod{Kind: api.MStruct, Decs: list(structure("M", n.(api.Mod)))}
		},
		"MStruct DFunctor": func(n Node) Node {
			return api.Mod{Kind: api.MStruct, Decs: list(api.Dec{Kind: api.DFunctor, Name: "F", Params: list("X"), Mods: list(n.(api.Mod)), Sigs: list(s)})}
		},
		"MLet DStr": func(n Node) Node {
			return api.Mod{Kind: api.MLet, Decs: list(structure("M", n.(api.Mod))), Mods: list(m)}
		},
		"SSig CStr": func(n Node) Node {
			return api.Sig{Kind: api.SSig, Specs: list(api.Spec{Kind: api.CStr, Name: "M", Sigs: list(n.(api.Sig))})}
		},
	}
}

// leaf: a node of one of the sorts that can stand in their own sort, without a part.
func leaf(sort byte) Node {
	switch sort {
	case 'Y':
		return word("int")
	case 'P':
		return bind("x")
	case 'E':
		return use("x")
	case 'M':
		return modPath("M")
	}
	return sigPath("S")
}

// shallow: a way to make a node of a sort just one deeper.
func shallow(sort byte) string {
	return map[byte]string{'Y': "YPair", 'P': "PCon", 'E': "EApp first", 'M': "MApp", 'S': "SWhere"}[sort]
}

// chain: a right node that is so deep, made by one way alone (but for its inmost part).
func chain(way string, deep int) Node {
	all, n := wraps(), leaf(way[0])
	_, one := slowSize(reflect.ValueOf(all[way](leaf(way[0]))))
	for depth := 1; depth < deep; {
		use, step := way, one-1
		if (deep-depth)%step != 0 {
			use, step = shallow(way[0]), 1
		}
		n = all[use](n)
		depth += step
	}
	return n
}

func TestF41DeepInEverySort(t *testing.T) {
	for way := range wraps() {
		for _, x := range []struct {
			deep int
			want api.Errno
		}{{1, api.OK}, {2, api.OK}, {3, api.OK}, {99, api.OK}, {100, api.OK}, {101, api.ErrDeep}, {102, api.ErrDeep}, {103, api.ErrDeep}, {200, api.ErrDeep}} {
			n := chain(way, x.deep)
			if _, d := slowSize(reflect.ValueOf(n)); d != x.deep {
				t.Fatalf("%s: the node is %d deep, not %d", way, d, x.deep)
			}
			if got := ask(n); got != x.want {
				t.Errorf("%s, %d deep: %d, want %d", way, x.deep, got, x.want)
			}
			if got := tree.Depth(list(lay(n))) - tree.Depth(list(lay(leaf(way[0])))); got != x.deep-1 {
				t.Errorf("%s: %d deeper than a leaf, want %d", way, got, x.deep-1)
			}
		}
		// In a declaration a node is so much deeper.
		around := tree.Depth(list(lay(leaf(way[0])))) - 1
		wantUnit(t, list(lay(chain(way, 100-around))), 0, api.OK)
		wantUnit(t, list(val("x", number(1)), lay(chain(way, 101-around))), 1, api.ErrDeep)
	}
}

func TestF41DeepThroughEveryListOfNodes(t *testing.T) {
	for _, sort := range []Node{api.Ty{}, api.Pat{}, api.Exp{}, api.Dec{}, api.Con{}, api.Mod{}, api.Sig{}, api.Spec{}} {
		for _, name := range fields(sort) {
			f := reflect.ValueOf(sort).FieldByName(name)
			if !nodes(f) {
				continue
			}
			part := reflect.MakeSlice(f.Type(), 2, 2)
			part.Index(1).Set(sink(f.Type().Elem(), 99))
			fine := with(sort, name, part.Interface())
			part.Index(1).Set(sink(f.Type().Elem(), 120))
			deep := with(sort, name, part.Interface())
			// These are not right at all, but where they are too deep, that is told first.
			switch sort.(type) {
			case api.Con, api.Spec:
				wantNode(t, deep, api.ErrDeep)
			case api.Dec:
				wantNode(t, fine, api.ErrArg)
				wantNode(t, deep, api.ErrDeep)
			default:
				wantNode(t, fine, api.ErrArg)
				wantNode(t, deep, api.ErrDeep)
				part.Index(1).Set(sink(f.Type().Elem(), 100))
				wantNode(t, with(sort, name, part.Interface()), api.ErrDeep)
			}
		}
	}
}

// sink: a node of a sort that is so deep, of zero kinds all through.
func sink(t reflect.Type, deep int) reflect.Value {
	v := reflect.New(t).Elem()
	if deep == 1 {
		return v
	}
	for i := range v.NumField() {
		if f := v.Field(i); nodes(f) {
			f.Set(reflect.Append(f, sink(f.Type().Elem(), deep-1)))
			break
		}
	}
	return v
}

func TestF41TooBig(t *testing.T) {
	one, three := val("x", number(1)), api.Dec{Kind: api.DVal, Name: "x", Tys: list(word("int")), Exps: list(number(1))}
	full := slices.Repeat(list(one), api.MaxNodes/2)
	wantSize(t, full, 4096, 2)
	wantUnit(t, full, 0, api.OK)
	more := append(full[1:len(full):len(full)], three)
	wantSize(t, more, 4097, 2)
	wantUnit(t, more, 0, api.ErrBig)
	wantUnit(t, append(more, one), 0, api.ErrBig)
	// In one declaration.
	wantUnit(t, list(structure("M", api.Mod{Kind: api.MStruct, Decs: full[1:]})), 0, api.OK)
	wantUnit(t, list(structure("M", api.Mod{Kind: api.MStruct, Decs: more[1:]})), 0, api.ErrBig)
	wantUnit(t, list(one, structure("M", api.Mod{Kind: api.MStruct, Decs: full[1:]})), 0, api.ErrBig)
	// Nodes count that their kinds do not have.
	wantUnit(t, list(val("x", api.Exp{Kind: api.EInt, Kids: slices.Repeat(list(number(1)), 4094)})), 0, api.ErrArg)
	wantUnit(t, list(val("x", api.Exp{Kind: api.EInt, Kids: slices.Repeat(list(number(1)), 4095)})), 0, api.ErrBig)
	// A node by itself is asked for its depth alone.
	wantNode(t, api.Exp{Kind: api.ELet, Decs: more, Kids: list(number(1))}, api.OK)
	wantNode(t, api.Mod{Kind: api.MStruct, Decs: more}, api.OK)
	wantNode(t, api.Sig{Kind: api.SSig, Specs: slices.Repeat(list(typeSpec("t")), 5000)}, api.OK)
	pat, ty := bind("x"), word("int")
	for range 13 {
		pat, ty = api.Pat{Kind: api.PPair, Kids: list(pat, pat)}, pairTy(ty, ty)
	}
	wantNode(t, pat, api.OK)
	wantNode(t, ty, api.OK)
}

func TestF41TooDeepTooBigAndNotRightTogether(t *testing.T) {
	good, bad, none := val("x", number(1)), val("9", number(1)), api.Dec{}
	deep := val("x", chain("EApp first", 100).(api.Exp))
	big := structure("M", api.Mod{Kind: api.MStruct, Decs: slices.Repeat(list(good), 2048)})
	wantUnit(t, list(good, deep, good, deep), 1, api.ErrDeep)
	wantUnit(t, list(bad, deep), 1, api.ErrDeep)
	wantUnit(t, list(deep, bad), 0, api.ErrDeep)
	wantUnit(t, list(none, good, good, deep), 3, api.ErrDeep)
	wantUnit(t, list(big, deep), 1, api.ErrDeep)
	wantUnit(t, list(good, deep, big), 1, api.ErrDeep)
	wantUnit(t, list(bad, big, none, deep), 3, api.ErrDeep)
	wantUnit(t, list(bad, big), 0, api.ErrBig)
	wantUnit(t, list(good, big), 0, api.ErrBig)
	wantUnit(t, list(good, none, big), 0, api.ErrBig)
	wantUnit(t, list(good, big, none), 0, api.ErrBig)
	wantUnit(t, list(good, none), 1, api.ErrArg)
	// In one declaration: too deep and wrong at its top; wrong deep inside.
	wrong := deep
	wrong.Name = "9"
	wantUnit(t, list(good, wrong), 1, api.ErrDeep)
	wantNode(t, api.Exp{Kind: api.EInt, N: -1, Kids: list(chain("EPair", 100).(api.Exp))}, api.ErrDeep)
	wantNode(t, api.Exp{Kind: api.EInt, N: -1, Kids: list(chain("EPair", 99).(api.Exp))}, api.ErrArg)
	at := use("X")
	for range 99 {
		at = api.Exp{Kind: api.ELet, Kids: list(at)}
	}
	wantNode(t, at, api.ErrName)
	wantNode(t, api.Exp{Kind: api.ELet, Kids: list(at)}, api.ErrDeep)
	for _, l := range [][]api.Dec{list(bad, none, deep, big), list(none, bad, big), list(none, big, deep), list(bad, none), list(big)} {
		at, e := slowUnit(l)
		wantUnit(t, l, at, e)
	}
}

func TestF43Binders(t *testing.T) {
	pair := func(a, b api.Pat) api.Pat { return api.Pat{Kind: api.PPair, Kids: list(a, b)} }
	con := func(p api.Pat) api.Pat { return api.Pat{Kind: api.PCon, Path: path("M.A"), Kids: list(p)} }
	x, y, z := bind("x"), bind("y"), bind("z")
	for _, c := range []struct {
		p    api.Pat
		want string
	}{
		{pair(y, pair(x, y)), "x y"}, {x, "x"}, {pair(x, x), "x"}, {pair(pair(z, y), con(x)), "x y z"}, {con(con(y)), "y"},
		{pair(pair(x, y), pair(y, z)), "x y z"}, {pair(bind("b"), pair(bind("aB"), pair(bind("a1"), bind("a_")))), "a1 aB a_ b"},
		{api.Pat{Kind: api.PAny}, ""}, {api.Pat{Kind: api.PInt, N: 3}, ""}, {api.Pat{Kind: api.PCon, Path: path("A")}, ""},
		{api.Pat{Kind: api.PTrue}, ""}, {api.Pat{Kind: api.PUnit}, ""}, {pair(api.Pat{Kind: api.PAny}, con(api.Pat{Kind: api.PFalse})), ""}, {api.Pat{}, ""},
		// Not right: every PVar counts, and nothing else.
		{api.Pat{Kind: api.PInt, Name: "q", Kids: list(x)}, "x"}, {api.Pat{Kind: api.PVar, Name: "v", Kids: list(y, x, z)}, "v x y z"},
		{api.Pat{Kind: 99, Kids: list(y, api.Pat{Kind: -1, Kids: list(x)})}, "x y"}, {api.Pat{Kind: api.PAny, Name: "q"}, ""},
		{api.Pat{Kind: api.PVar, Name: "9 X"}, "9 X"}, {api.Pat{Kind: api.PPair, Kids: list(z)}, "z"},
	} {
		if got := strings.Join(tree.Binders(c.p), " "); got != c.want {
			t.Errorf("Binders(%v) = %s, want %s", c.p, got, c.want)
		}
	}
	if got := tree.Binders(api.Pat{Kind: api.PAny}); len(got) != 0 {
		t.Errorf("Binders of a pattern without a PVar: %q", got)
	}
	if got := tree.Binders(pair(bind("b"), pair(bind(""), bind("")))); !slices.Equal(got, list("", "b")) {
		t.Errorf("Binders with an empty name: %q", got)
	}
}

func TestNothingGoesWrongWhereNodesAreVeryDeep(t *testing.T) {
	const deep = 1 << 16
	e, p, y, m, s := use("x"), bind("x"), word("int"), modPath("M"), sigPath("S")
	for i := 1; i < deep; i++ {
		if i%2 == 0 {
			e = api.Exp{Kind: api.ELet, Decs: list(val("x", e))}
			m = api.Mod{Kind: api.MStruct, Decs: list(structure("M", m))}
			s = api.Sig{Kind: api.SSig, Specs: list(api.Spec{Kind: api.CStr, Sigs: list(s)})}
		}
		p, y = api.Pat{Kind: api.PCon, Kids: list(p)}, api.Ty{Kind: api.YFn, Kids: list(y)}
	}
	for _, n := range []Node{e, p, y, m, s} {
		wantNode(t, n, api.ErrDeep)
		l := list(lay(n))
		wantUnit(t, l, 0, api.ErrDeep)
		if d := tree.Depth(l); d < deep || tree.Nodes(l) < deep {
			t.Errorf("Depth is %d", d)
		}
		if !tree.Same(tree.Copy(l), l) {
			t.Error("a copy is not the same")
		}
	}
	if got := tree.Binders(p); !slices.Equal(got, list("x")) {
		t.Errorf("Binders: %q", got)
	}
}
