package target_test

import (
	"math"
	"math/rand"
	"slices"
	"strconv"
	"testing"

	"wafer/api"
	"wafer/target"
)

// letters: so many labels in order.
func letters(n int) []string {
	l := make([]string, 0, n)
	for i := range n {
		l = append(l, "l"+strconv.Itoa(i))
	}
	return l
}

func verdict(right bool) api.Errno {
	if right {
		return api.OK
	}
	return api.ErrArg
}

// typeFits: may a type of this kind have these fields, by the chapter's words?
func typeFits(kind, n, labels, kids int) bool {
	switch kind {
	case api.GInt, api.GBool, api.GUnit:
		return n == 0 && labels == 0 && kids == 0
	case api.GFn, api.GPair:
		return n == 0 && labels == 0 && kids == 2
	case api.GVar:
		return labels == 0 && kids == 0
	case api.GRec:
		return n == 0 && labels == kids
	case api.GSum:
		return n == 0 && labels == 0
	case api.GMu, api.GAll, api.GEx:
		return labels == 0 && kids == 1
	}
	return false
}

// TestP901Types: every kind with every number of each thing.
func TestP901Types(t *testing.T) {
	for kind := -2; kind <= 14; kind++ {
		for _, n := range edges() {
			for labels := range 5 {
				for kids := range 5 {
					one := api.TT{Kind: kind, N: n, Labels: letters(labels), Kids: slices.Repeat([]api.TT{integer()}, kids)}
					want := verdict(typeFits(kind, n, labels, kids))
					for _, whole := range []api.TT{one, fn(integer(), one), sum(unit(), all(3, one), unit())} {
						if got := target.RightType(whole); got != want {
							t.Errorf("kind %d, N %d, %d Labels, %d Kids: %v, want %v", kind, n, labels, kids, got, want)
						}
					}
				}
			}
		}
	}
	for _, kind := range noKinds() {
		if got := target.RightType(tt(kind, 0)); got != api.ErrArg {
			t.Errorf("kind %d: %v", kind, got)
		}
	}
}

// own: how many of each thing a term has.
type own struct {
	kind, n, num, name, labels, types, kids int
}

// termFits: may a term have these, by the chapter's words?
func (o own) termFits() bool {
	free := o
	free.kind = 0
	named := own{name: o.name}
	numbered := own{n: o.n}
	with := func(base own, labels, types, kids int) own {
		base.labels, base.types, base.kids = labels, types, kids
		return base
	}
	switch o.kind {
	case api.XInt:
		return free == own{num: o.num}
	case api.XBool:
		return free == own{num: o.num} && (o.num == 0 || o.num == 1)
	case api.XUnit:
		return free == own{}
	case api.XVar:
		return free == named
	case api.XLam:
		return free == with(named, 0, 1, 1)
	case api.XApp, api.XPair:
		return free == with(own{}, 0, 0, 2)
	case api.XFix:
		return free == with(named, 1, 2, 1)
	case api.XLet:
		return free == with(named, 0, 0, 2)
	case api.XFst, api.XSnd, api.XUnfold, api.XTick:
		return free == with(own{}, 0, 0, 1)
	case api.XIf:
		return free == with(own{}, 0, 0, 3)
	case api.XBin:
		return free == with(numbered, 0, 0, 2) && o.n >= 1 && o.n <= 6
	case api.XRec:
		return free == with(own{}, o.kids, 0, o.kids)
	case api.XSel:
		return free == with(named, 0, 0, 1)
	case api.XInj:
		return free == with(numbered, 0, 1, 1) && o.n >= 0
	case api.XCase:
		return free == with(own{}, o.kids-1, 0, o.kids)
	case api.XFold, api.XInst:
		return free == with(own{}, 0, 1, 1)
	case api.XAll:
		return free == with(numbered, 0, 0, 1)
	case api.XPack:
		return free == with(own{}, 0, 2, 1)
	case api.XOpen:
		return free == with(own{n: o.n, name: o.name}, 0, 0, 2)
	case api.XFail:
		return free == with(own{}, 0, 1, 0)
	}
	return false
}

func (o own) term() api.TM {
	return api.TM{Kind: o.kind, N: o.n, Int: int64(o.num), Name: []string{"", "x"}[o.name], Labels: letters(o.labels), Types: slices.Repeat([]api.TT{integer()}, o.types), Kids: slices.Repeat([]api.TM{xint(7)}, o.kids)}
}

// TestP901Terms: every kind with every number of each thing.
func TestP901Terms(t *testing.T) {
	var rights int
	for kind := -2; kind <= 28; kind++ {
		for _, n := range []int{math.MinInt, -1, 0, 1, 6, 7, math.MaxInt} {
			for _, num := range []int{math.MinInt, -1, 0, 1, 2, 3, math.MaxInt} {
				for rest := range 2 * 4 * 4 * 5 {
					o := own{kind, n, num, rest % 2, rest / 2 % 4, rest / 8 % 4, rest / 32}
					right := o.termFits()
					if got := target.RightTerm(o.term()); got != verdict(right) {
						t.Errorf("%+v: %v, want %v", o, got, verdict(right))
					}
					if right {
						rights++
					}
				}
			}
		}
	}
	if rights < 60 {
		t.Errorf("only %d of them are right", rights)
	}
	for _, kind := range noKinds() {
		if got := target.RightTerm(tm(kind)); got != api.ErrArg {
			t.Errorf("kind %d: %v", kind, got)
		}
	}
}

// TestP901Operators: each N that an XBin may have, and those beside them; the same of an XInj.
func TestP901Operators(t *testing.T) {
	for n := api.OAdd - 2; n <= api.OLt+2; n++ {
		m := tm(api.XBin, xint(1), xint(2))
		m.N = n
		if got := target.RightTerm(m); got != verdict(n >= api.OAdd && n <= api.OLt) {
			t.Errorf("XBin of N %d: %v", n, got)
		}
	}
	for _, n := range edges() {
		m := api.TM{Kind: api.XInj, N: n, Types: []api.TT{sum()}, Kids: []api.TM{xint(1)}}
		if got := target.RightTerm(m); got != verdict(n >= 0) {
			t.Errorf("XInj of N %d: %v", n, got)
		}
	}
	for _, n := range []int64{math.MinInt64, -2, -1, 0, 1, 2, 3, 1 << 32, 1<<32 + 1, math.MaxInt64} {
		if got := target.RightTerm(api.TM{Kind: api.XBool, Int: n}); got != verdict(n == 0 || n == 1) {
			t.Errorf("XBool of Int %d: %v", n, got)
		}
	}
}

// TestP901Labels: those of a record are in order and stand once; those of an XCase are variables, and may stand anyhow.
func TestP901Labels(t *testing.T) {
	for _, c := range []struct {
		labels []string
		right  bool
	}{
		{nil, true}, {[]string{}, true}, {[]string{""}, true}, {[]string{"b"}, true},
		{[]string{"a", "b"}, true}, {[]string{"b", "a"}, false}, {[]string{"a", "a"}, false}, {[]string{"", ""}, false},
		{[]string{"", "a"}, true}, {[]string{"a", ""}, false}, {[]string{"B", "a"}, true}, {[]string{"a", "B"}, false},
		{[]string{"a", "ab"}, true}, {[]string{"ab", "a"}, false}, {[]string{"a", "b", "b"}, false}, {[]string{"a", "c", "b"}, false},
		{[]string{"a", "b", "a"}, false}, {[]string{"a b", "a.b", "a{"}, true}, {[]string{"z", "\xc3\xa4", "\xff"}, true}, {[]string{"\xff", "z"}, false},
		{[]string{"x10", "x9"}, true}, {[]string{"x9", "x10"}, false},
	} {
		n := len(c.labels)
		record := api.TT{Kind: api.GRec, Labels: c.labels, Kids: slices.Repeat([]api.TT{integer()}, n)}
		if got := target.RightType(record); got != verdict(c.right) {
			t.Errorf("GRec of %q: %v", c.labels, got)
		}
		if got := target.RightTerm(fail(all(1, record))); got != verdict(c.right) {
			t.Errorf("GRec of %q in a term: %v", c.labels, got)
		}
		term := api.TM{Kind: api.XRec, Labels: c.labels, Kids: slices.Repeat([]api.TM{xint(1)}, n)}
		if got := target.RightTerm(app(xint(1), term)); got != verdict(c.right) {
			t.Errorf("XRec of %q: %v", c.labels, got)
		}
		branches := api.TM{Kind: api.XCase, Labels: c.labels, Kids: slices.Repeat([]api.TM{xint(1)}, n+1)}
		if got := target.RightTerm(branches); got != api.OK {
			t.Errorf("XCase of %q: %v", c.labels, got)
		}
	}
	if got := target.RightTerm(fix("f", "f", integer(), integer(), x("f"))); got != api.OK {
		t.Errorf("XFix whose Name and Label are one: %v", got)
	}
}

// TestP901NilAndEmpty: a list without an element may be either.
func TestP901NilAndEmpty(t *testing.T) {
	for kind := -1; kind <= 27; kind++ {
		a, b := api.TT{Kind: kind}, api.TT{Kind: kind, Labels: []string{}, Kids: []api.TT{}}
		if target.RightType(a) != target.RightType(b) || !target.SameType(a, b) || target.Text(a) != target.Text(b) {
			t.Errorf("types of kind %d: lists that are nil and that are empty are not alike", kind)
		}
		m, o := api.TM{Kind: kind}, api.TM{Kind: kind, Labels: []string{}, Types: []api.TT{}, Kids: []api.TM{}}
		if target.RightTerm(m) != target.RightTerm(o) || !target.SameTerm(m, o) || target.Show(m) != target.Show(o) {
			t.Errorf("terms of kind %d: lists that are nil and that are empty are not alike", kind)
		}
	}
}

// TestP901Everywhere: one node that is not right, wherever it stands.
func TestP901Everywhere(t *testing.T) {
	r := rand.New(rand.NewSource(901))
	var wrong int
	for range 3000 {
		m := plainTerm(r, 6)
		if got := target.RightTerm(m); got != api.OK {
			t.Fatalf("%s: %v", brief(plainTerm0(m)), got)
		}
		m = roomyTerm(m)
		if spoil(r, &m) {
			wrong++
			if got := target.RightTerm(m); got != api.ErrArg {
				t.Fatalf("%s: %v", brief(plainTerm0(m)), got)
			}
		}
		u := plainType(r, 6)
		if got := target.RightType(u); got != api.OK {
			t.Fatalf("%s: %v", brief(plainType0(u)), got)
		}
		u = roomy(u)
		spoilType(r, &u)
		if got := target.RightType(u); got != api.ErrArg {
			t.Fatalf("%s: %v", brief(plainType0(u)), got)
		}
	}
	if wrong != 3000 {
		t.Errorf("only %d terms were spoilt", wrong)
	}
}

// spoil: makes one node of a term, or of a type in it, wrong.
func spoil(r *rand.Rand, m *api.TM) bool {
	for r.Intn(4) > 0 {
		if len(m.Types) > 0 && r.Intn(3) == 0 {
			spoilType(r, &m.Types[r.Intn(len(m.Types))])
			return true
		}
		if len(m.Kids) == 0 {
			break
		}
		m = &m.Kids[r.Intn(len(m.Kids))]
	}
	switch r.Intn(4) {
	case 0:
		m.Kind = chosen(r, noKinds()...)
	case 1:
		m.Types = append(m.Types, unit(), unit(), unit())
	case 2:
		m.Labels = append(m.Labels, "zz")
	default:
		m.Kids = append(m.Kids, xint(1), xint(1), xint(1))
	}
	return true
}

func spoilType(r *rand.Rand, t *api.TT) {
	for len(t.Kids) > 0 && r.Intn(4) > 0 {
		t = &t.Kids[r.Intn(len(t.Kids))]
	}
	switch r.Intn(3) {
	case 0:
		t.Kind = chosen(r, noKinds()...)
	case 1:
		t.Labels = append(t.Labels, "zz")
	default:
		t.Kids = append(t.Kids, unit(), unit(), unit())
		if t.Kind == api.GSum {
			t.N = 1
		}
	}
}

const deepest = 100000

// TestP901DeepTypes: what is nested at the limit and at one more, by each kind that has Kids.
func TestP901DeepTypes(t *testing.T) {
	for _, kind := range []int{api.GFn, api.GPair, api.GRec, api.GSum, api.GMu, api.GAll, api.GEx} {
		if got := target.RightType(chain(kind, deepest, v(1))); got != api.OK {
			t.Errorf("kind %d at the limit: %v", kind, got)
		}
		if got := target.RightType(chain(kind, deepest, tt(99, 0))); got != api.ErrArg {
			t.Errorf("kind %d at the limit, wrong at its end: %v", kind, got)
		}
		deep := chain(kind, deepest+1, v(1))
		for name, x := range map[string]api.TT{
			"right":                      deep,
			"wrong at its end":           chain(kind, deepest+1, tt(99, 0)),
			"wrong ahead of it":          fn(tt(99, 0), deep),
			"wrong behind it":            fn(deep, tt(99, 0)),
			"wrong around it":            tt(0, 5, deep),
			"in a kind that has no Kids": tt(api.GInt, 0, unit(), deep),
			"far deeper":                 chain(kind, 3*deepest, v(1)),
		} {
			if got := target.RightType(x); got != api.ErrDeep {
				t.Errorf("kind %d one deeper, %s: %v", kind, name, got)
			}
		}
	}
	if got := target.RightType(chain(0, deepest, v(1))); got != api.ErrArg {
		t.Errorf("a kind that is none, at the limit: %v", got)
	}
	if got := target.RightType(chain(0, deepest+1, v(1))); got != api.ErrDeep {
		t.Errorf("a kind that is none, one deeper: %v", got)
	}
}

// TestP901DeepTerms: the same of terms; the types in a term are nested in it.
func TestP901DeepTerms(t *testing.T) {
	deep := chain(api.GFn, deepest, v(1))
	for _, c := range []struct {
		name string
		m    api.TM
		want api.Errno
	}{
		{"at the limit", xchain(deepest, xint(1)), api.OK},
		{"at the limit, wrong at its end", xchain(deepest, tm(99)), api.ErrArg},
		{"one deeper", xchain(deepest+1, xint(1)), api.ErrDeep},
		{"one deeper, wrong at its end", xchain(deepest+1, tm(99)), api.ErrDeep},
		{"wrong around it", tm(99, xchain(deepest, xint(1))), api.ErrDeep},
		{"wrong ahead of it", app(tm(99), xchain(deepest, xint(1))), api.ErrDeep},
		{"wrong behind it", app(xchain(deepest, xint(1)), tm(99)), api.ErrDeep},
		{"in a kind that has no Kids", tm(api.XInt, xint(1), xchain(deepest, xint(1))), api.ErrDeep},
		{"far deeper", xchain(3*deepest, xint(1)), api.ErrDeep},
		{"a type at the limit", fail(deep.Kids[1]), api.OK},
		{"a type one deeper", fail(deep), api.ErrDeep},
		{"a type far inside, at the limit", xchain(deepest-2, fail(fn(integer(), integer()))), api.OK},
		{"a type far inside, one deeper", xchain(deepest-1, fail(fn(integer(), integer()))), api.ErrDeep},
		{"a type at the end, one deeper", xchain(deepest, fail(integer())), api.ErrDeep},
		{"a type one deeper, in a kind that has no Types", api.TM{Kind: api.XInt, Types: []api.TT{deep}}, api.ErrDeep},
		{"a type one deeper, behind a wrong one", api.TM{Kind: api.XPack, Types: []api.TT{tt(99, 0), deep}, Kids: []api.TM{xint(1)}}, api.ErrDeep},
		{"a type one deeper, ahead of a wrong kid", lam("x", deep, tm(99)), api.ErrDeep},
	} {
		if got := target.RightTerm(c.m); got != c.want {
			t.Errorf("%s: %v, want %v", c.name, got, c.want)
		}
	}
}
