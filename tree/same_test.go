package tree_test

import (
	"math"
	"math/rand"
	"reflect"
	"slices"
	"testing"

	"wafer/api"
	"wafer/tree"
)

// same: what the face says of two nodes of one sort: by the sort's own function, if it has one, and of declarations in which they stand.
func same(t *testing.T, a, b Node) bool {
	t.Helper()
	in := tree.Same(list(lay(a)), list(lay(b)))
	by := in
	switch x := a.(type) {
	case api.Ty:
		by = tree.SameTy(x, b.(api.Ty))
	case api.Pat:
		by = tree.SamePat(x, b.(api.Pat))
	case api.Exp:
		by = tree.SameExp(x, b.(api.Exp))
	case api.Mod:
		by = tree.SameMod(x, b.(api.Mod))
	case api.Sig:
		by = tree.SameSig(x, b.(api.Sig))
	}
	if by != in {
		t.Errorf("%s and %s: %v by themselves, %v within a declaration", brief(a), brief(b), by, in)
	}
	return by
}

// wantSame: whether two nodes are the same, in both orders.
func wantSame(t *testing.T, a, b Node, want bool) {
	t.Helper()
	if same(t, a, b) != want || same(t, b, a) != want {
		t.Errorf("%T %s and %s are the same: %v", a, brief(a), brief(b), !want)
	}
}

// alike: are two nodes the same, by the chapter's words?
func alike(a, b Node) bool { return reflect.DeepEqual(plain(a), plain(b)) }

func TestF42SameOfNodesThatDifferInOneField(t *testing.T) {
	for _, n := range rights() {
		wantSame(t, n, n, true)
		wantSame(t, n, twin(n), true)
		for _, name := range fields(n) {
			f := reflect.ValueOf(n).FieldByName(name)
			for _, x := range values(f, name) {
				other := with(n, name, x)
				wantSame(t, n, other, alike(n, other))
			}
			switch {
			case name == "At":
				for _, at := range []int{math.MinInt, -1, 1, math.MaxInt} {
					wantSame(t, n, with(n, name, at), true)
				}
			case f.Kind() == reflect.Int, f.Kind() == reflect.Int64:
				wantSame(t, n, with(n, name, f.Int()+1), false)
			case f.Kind() == reflect.String:
				wantSame(t, n, with(n, name, f.String()+"q"), false)
			default:
				zero := reflect.Zero(f.Type().Elem())
				wantSame(t, n, with(n, name, reflect.Append(twinOf(f), zero).Interface()), false)
				wantSame(t, n, with(n, name, reflect.AppendSlice(list1(zero), twinOf(f)).Interface()), false)
				if f.Len() > 0 {
					wantSame(t, n, with(n, name, f.Slice(0, f.Len()-1).Interface()), false)
					wantSame(t, n, with(n, name, f.Slice(1, f.Len()).Interface()), false)
					wantSame(t, n, with(n, name, nil), false)
				} else {
					wantSame(t, with(n, name, nil), with(n, name, reflect.MakeSlice(f.Type(), 0, 3).Interface()), true)
				}
			}
		}
	}
}

// list1: a list with one element.
func list1(v reflect.Value) reflect.Value {
	return reflect.Append(reflect.MakeSlice(reflect.SliceOf(v.Type()), 0, 1), v)
}

func TestF42SameOfNodesThatDifferDeepInside(t *testing.T) {
	chance := rand.New(rand.NewSource(42))
	all := pool()
	sorts := []Node{api.Ty{}, api.Pat{}, api.Exp{}, api.Dec{}, api.Con{}, api.Mod{}, api.Sig{}, api.Spec{}}
	for i := range 4000 {
		n := grow(chance, all, reflect.TypeOf(sorts[i%len(sorts)]), 5).Interface()
		v := reflect.New(reflect.TypeOf(n)).Elem()
		v.Set(reflect.ValueOf(twin(n)))
		wantSame(t, n, v.Interface(), true)
		change(chance, v)
		wantSame(t, n, v.Interface(), alike(n, v.Interface()))
	}
}

func TestF42SameOfLists(t *testing.T) {
	a, b := val("x", number(1)), val("y", number(1))
	far := a
	far.At = 99
	for _, x := range []struct {
		a, b []api.Dec
		want bool
	}{
		{nil, nil, true}, {nil, []api.Dec{}, true}, {nil, list(a), false}, {list(a), list(a), true}, {list(a), list(far), true}, {list(a), list(b), false},
		{list(a, b), list(a), false}, {list(a, b), list(b, a), false}, {list(a, a), list(a), false}, {list(a, b), list(far, b), true}, {list(a, b), list(a, a), false},
		{make([]api.Dec, 2), make([]api.Dec, 2), true}, {make([]api.Dec, 2), make([]api.Dec, 3), false},
	} {
		if tree.Same(x.a, x.b) != x.want || tree.Same(x.b, x.a) != x.want {
			t.Errorf("Same(%v, %v) is %v", x.a, x.b, !x.want)
		}
	}
}

func TestP402Equality(t *testing.T) {
	chance := rand.New(rand.NewSource(402))
	var all [][]api.Dec
	for i := range 60 {
		l := list(val("x", number(int64(i%3))), structure("M", api.Mod{Kind: api.MStruct, Decs: list(val("y", use("x")))}))
		l[0].At, l[1].At, l[1].Mods[0].Decs[0].At = chance.Intn(9), chance.Intn(9), chance.Intn(9)
		switch i % 5 {
		case 1:
			l[1].Mods[0].Decs[0].Exps[0].Kids = []api.Exp{}
			l[0].Params = []string{}
		case 2:
			l[1].Mods[0].Decs[0].Name = "z"
		case 3:
			l = l[:1]
		case 4:
			l[1].Mods[0].Sigs = list(sigPath("S"))
		}
		all = append(all, l)
	}
	like := 0
	for _, a := range all {
		if !tree.Same(a, a) || !tree.Same(a, tree.Copy(a)) {
			t.Errorf("%v is not the same as itself", a)
		}
		for _, b := range all {
			ab := tree.Same(a, b)
			if ab != tree.Same(b, a) {
				t.Errorf("Same of %v and %v, turned round, is not the same", a, b)
			}
			if ab != alike(wrap(a), wrap(b)) {
				t.Errorf("Same of %v and %v: %v", a, b, ab)
			}
			for _, c := range all {
				if ab && tree.Same(b, c) {
					like++
					if !tree.Same(a, c) {
						t.Errorf("Same does not go on through %v from %v to %v", b, a, c)
					}
				}
			}
		}
	}
	if like < 1000 {
		t.Errorf("only %d threes are alike", like)
	}
}

// wrap: declarations as one node.
func wrap(l []api.Dec) Node { return api.Mod{Kind: api.MStruct, Decs: l} }

// span: where the memory of a list begins and ends, spare room too.
type span struct{ from, to uintptr }

// memory: the spans of all lists in a value.
func memory(v reflect.Value) (l []span) {
	switch v.Kind() {
	case reflect.Struct:
		for i := range v.NumField() {
			l = append(l, memory(v.Field(i))...)
		}
	case reflect.Slice:
		if v.Cap() > 0 {
			from := v.Pointer()
			l = append(l, span{from, from + uintptr(v.Cap())*v.Type().Elem().Size()})
		}
		for i := range v.Len() {
			l = append(l, memory(v.Index(i))...)
		}
	}
	return l
}

// apart: do no two of the spans share a byte?
func apart(l []span) bool {
	slices.SortFunc(l, func(a, b span) int {
		if a.from < b.from {
			return -1
		}
		return 1
	})
	for i := 1; i < len(l); i++ {
		if l[i].from < l[i-1].to {
			return false
		}
	}
	return true
}

// full: a node in which every field of every sort has something, of zero kinds, with spare room.
func full(t reflect.Type, deep int) reflect.Value {
	v := reflect.New(t).Elem()
	for i := range v.NumField() {
		f := v.Field(i)
		switch {
		case f.Kind() == reflect.Slice && !nodes(f):
			f.Set(reflect.ValueOf(append(make([]string, 0, 4), "a", "b")))
		case nodes(f) && deep > 1:
			l := reflect.MakeSlice(f.Type(), 0, 3)
			f.Set(reflect.Append(l, full(f.Type().Elem(), deep-1)))
		case f.Kind() == reflect.String:
			f.SetString("s")
		case f.Kind() == reflect.Int, f.Kind() == reflect.Int64:
			f.SetInt(int64(deep))
		}
	}
	return v
}

func TestP401CopiesShareNothing(t *testing.T) {
	chance := rand.New(rand.NewSource(401))
	all, dec := pool(), reflect.TypeOf(api.Dec{})
	units := [][]api.Dec{nil, {}, make([]api.Dec, 2, 5), list(full(dec, 5).Interface().(api.Dec))}
	for range 200 {
		units = append(units, list(grow(chance, all, dec, 5).Interface().(api.Dec), grow(chance, all, dec, 3).Interface().(api.Dec)))
	}
	for _, l := range units {
		before := twin(wrap(l))
		c := tree.Copy(l)
		if !tree.Same(c, l) || !reflect.DeepEqual(withPlaces(c), withPlaces(l)) {
			t.Fatalf("Copy(%s) = %s", brief(l), brief(c))
		}
		// Right nodes of the pool share lists with one another: what is handed out does not.
		if out := memory(reflect.ValueOf(c)); !apart(out) {
			t.Errorf("two lists of Copy(%s) share memory", brief(l))
		}
		in := memory(reflect.ValueOf(l))
		for _, s := range memory(reflect.ValueOf(c)) {
			for _, x := range in {
				if s.from < x.to && x.from < s.to {
					t.Fatalf("Copy(%s) shares memory with it", brief(l))
				}
			}
		}
		spoil(reflect.ValueOf(c))
		if !reflect.DeepEqual(before, wrap(l)) {
			t.Errorf("what is written into a copy of %s is seen in it", brief(before))
		}
		again := tree.Copy(l)
		kept := twin(wrap(again))
		spoil(reflect.ValueOf(l))
		if !reflect.DeepEqual(kept, wrap(again)) {
			t.Errorf("what is written into %s is seen in its copy", brief(kept))
		}
	}
}

// withPlaces: declarations with nil for every list without an element, but with their places.
func withPlaces(l []api.Dec) Node {
	v := reflect.New(reflect.TypeOf(l)).Elem()
	v.Set(twinOf(reflect.ValueOf(l)))
	var bare func(v reflect.Value)
	bare = func(v reflect.Value) {
		switch v.Kind() {
		case reflect.Struct:
			for i := range v.NumField() {
				bare(v.Field(i))
			}
		case reflect.Slice:
			if v.Len() == 0 {
				v.SetZero()
			}
			for i := range v.Len() {
				bare(v.Index(i))
			}
		}
	}
	bare(v)
	return v.Interface()
}

// spoil: writes into every element of every list, the inmost ones first, and into their spare room.
func spoil(v reflect.Value) {
	if v.Kind() == reflect.Slice {
		v = v.Slice(0, v.Cap())
		for i := range v.Len() {
			spoil(v.Index(i))
			if v.Index(i).Kind() == reflect.String {
				v.Index(i).SetString("spoilt")
			} else {
				v.Index(i).Field(0).SetZero()
				v.Index(i).SetZero()
			}
		}
	}
	if v.Kind() == reflect.Struct {
		for i := range v.NumField() {
			spoil(v.Field(i))
		}
	}
}

func TestP401CopiesOfListsThatStandTwice(t *testing.T) {
	kids := list(number(1), number(2))
	twice := api.Exp{Kind: api.EPair, Kids: list(api.Exp{Kind: api.EPair, Kids: kids}, api.Exp{Kind: api.EPair, Kids: kids})}
	c := tree.Copy(list(val("x", twice)))
	c[0].Exps[0].Kids[0].Kids[0].N = 9
	if c[0].Exps[0].Kids[1].Kids[0].N != 1 || kids[0].N != 1 {
		t.Error("two lists of a copy share memory")
	}
	deep := structure("M", api.Mod{Kind: api.MStruct, Decs: list(api.Dec{Kind: api.DVal, At: 7, Name: "x", Exps: list(use("A.x"))})})
	deep.At = 3
	d := tree.Copy(list(deep))
	if d[0].At != 3 || d[0].Mods[0].Decs[0].At != 7 {
		t.Errorf("Copy leaves out places: %v", d)
	}
	d[0].Mods[0].Decs[0].Exps[0].Path[0] = "B"
	if deep.Mods[0].Decs[0].Exps[0].Path[0] != "A" || tree.Same(d, list(deep)) {
		t.Error("a path is shared")
	}
}

func TestNothingIsChangedOrKept(t *testing.T) {
	chance := rand.New(rand.NewSource(4))
	all := pool()
	for _, n := range []Node{api.Ty{}, api.Pat{}, api.Exp{}, api.Dec{}, api.Con{}, api.Mod{}, api.Sig{}, api.Spec{}} {
		for i := range 40 {
			v := grow(chance, all, reflect.TypeOf(n), 4)
			if i%2 == 1 {
				v = full(v.Type(), 4)
			}
			n := v.Interface()
			before := twin(n)
			l := append(make([]api.Dec, 0, 3), lay(n))
			ask(n)
			same(t, n, before)
			tree.Nodes(l)
			tree.Depth(l)
			tree.Right(l)
			if p, ok := n.(api.Pat); ok {
				b := tree.Binders(p)
				for k := range b[:cap(b)] {
					b[:cap(b)][k] = "spoilt"
				}
			}
			if !reflect.DeepEqual(before, n) || !reflect.DeepEqual(l[:3][1:], make([]api.Dec, 2)) {
				t.Errorf("%s was changed", brief(before))
			}
		}
	}
}
