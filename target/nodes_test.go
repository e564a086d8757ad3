package target_test

import (
	"math"
	"math/rand"
	"slices"
	"strconv"
	"strings"

	"wafer/api"
)

func tt(kind, n int, kids ...api.TT) api.TT { return api.TT{Kind: kind, N: n, Kids: kids} }

func v(n int) api.TT { return tt(api.GVar, n) }

func fn(a, b api.TT) api.TT { return tt(api.GFn, 0, a, b) }

func pair(a, b api.TT) api.TT { return tt(api.GPair, 0, a, b) }

func sum(kids ...api.TT) api.TT { return tt(api.GSum, 0, kids...) }

func mu(n int, kid api.TT) api.TT { return tt(api.GMu, n, kid) }

func all(n int, kid api.TT) api.TT { return tt(api.GAll, n, kid) }

func some(n int, kid api.TT) api.TT { return tt(api.GEx, n, kid) }

func integer() api.TT { return tt(api.GInt, 0) }

func boolean() api.TT { return tt(api.GBool, 0) }

func unit() api.TT { return tt(api.GUnit, 0) }

// rec: a record's type; the labels are divided by blanks.
func rec(labels string, kids ...api.TT) api.TT {
	return api.TT{Kind: api.GRec, Labels: strings.Fields(labels), Kids: kids}
}

func tm(kind int, kids ...api.TM) api.TM { return api.TM{Kind: kind, Kids: kids} }

func xint(n int64) api.TM { return api.TM{Kind: api.XInt, Int: n} }

func x(name string) api.TM { return api.TM{Kind: api.XVar, Name: name} }

func lam(name string, t api.TT, kid api.TM) api.TM {
	return api.TM{Kind: api.XLam, Name: name, Types: []api.TT{t}, Kids: []api.TM{kid}}
}

func app(a, b api.TM) api.TM { return tm(api.XApp, a, b) }

func fix(name, label string, t, u api.TT, kid api.TM) api.TM {
	return api.TM{Kind: api.XFix, Name: name, Labels: []string{label}, Types: []api.TT{t, u}, Kids: []api.TM{kid}}
}

func let(name string, a, b api.TM) api.TM {
	return api.TM{Kind: api.XLet, Name: name, Kids: []api.TM{a, b}}
}

func open(n int, name string, a, b api.TM) api.TM {
	return api.TM{Kind: api.XOpen, N: n, Name: name, Kids: []api.TM{a, b}}
}

func xall(n int, kid api.TM) api.TM { return api.TM{Kind: api.XAll, N: n, Kids: []api.TM{kid}} }

func fail(t api.TT) api.TM { return api.TM{Kind: api.XFail, Types: []api.TT{t}} }

// xcase: a term that looks at a sum; the labels are divided by blanks.
func xcase(labels string, kids ...api.TM) api.TM {
	return api.TM{Kind: api.XCase, Labels: strings.Fields(labels), Kids: kids}
}

// xrec: a record; the labels are divided by blanks.
func xrec(labels string, kids ...api.TM) api.TM {
	return api.TM{Kind: api.XRec, Labels: strings.Fields(labels), Kids: kids}
}

// noKinds: numbers that are no kind of a type, nor of a term.
func noKinds() []int { return []int{math.MinInt, -4, -1, 0, 26, 27, 1 << 32, math.MaxInt} }

// edges: numbers at the ends of what may come.
func edges() []int { return []int{math.MinInt, -2, -1, 0, 1, 2, math.MaxInt} }

// chosen: one of a list, by chance.
func chosen[E any](r *rand.Rand, l ...E) E { return l[r.Intn(len(l))] }

// plainType: a right type by chance, with few numbers, that is nested at most so deep.
func plainType(r *rand.Rand, depth int) api.TT {
	if depth <= 1 || r.Intn(5) == 0 {
		return chosen(r, integer(), boolean(), unit(), v(r.Intn(4)-1), v(r.Intn(4)-1), v(r.Intn(4)-1), rec(""), sum())
	}
	kid := func() api.TT { return plainType(r, depth-1) }
	switch r.Intn(8) {
	case 0:
		return fn(kid(), kid())
	case 1:
		return pair(kid(), kid())
	case 2:
		return rec(chosen(r, "a b", "a c", "A a"), kid(), kid())
	case 3:
		return rec(chosen(r, "a", "b"), kid())
	case 4:
		return sum(slices.Repeat([]api.TT{kid()}, r.Intn(4))...)
	}
	return tt(chosen(r, api.GMu, api.GAll, api.GEx), r.Intn(4)-1, kid())
}

func someName(r *rand.Rand) string { return chosen(r, "f", "g", "h", "x()", "") }

// plainTerm: a right term by chance, with few numbers and names, that is nested at most so deep.
func plainTerm(r *rand.Rand, depth int) api.TM {
	if depth <= 1 || r.Intn(6) == 0 {
		return chosen(r, xint(int64(r.Intn(3)-1)), api.TM{Kind: api.XBool, Int: int64(r.Intn(2))}, tm(api.XUnit), xrec(""), x(someName(r)), x(someName(r)), x(someName(r)), x(someName(r)), fail(plainType(r, depth-1)))
	}
	kid := func() api.TM { return plainTerm(r, depth-1) }
	t := func() api.TT { return plainType(r, min(depth-1, 3)) }
	switch r.Intn(20) {
	case 0:
		return tm(chosen(r, api.XApp, api.XPair), kid(), kid())
	case 1:
		return tm(chosen(r, api.XFst, api.XSnd, api.XUnfold, api.XTick), kid())
	case 2:
		return tm(api.XIf, kid(), kid(), kid())
	case 3:
		return api.TM{Kind: api.XBin, N: 1 + r.Intn(6), Kids: []api.TM{kid(), kid()}}
	case 4:
		return xrec(chosen(r, "a b", "f g"), kid(), kid())
	case 5:
		return api.TM{Kind: api.XSel, Name: someName(r), Kids: []api.TM{kid()}}
	case 6:
		return api.TM{Kind: api.XInj, N: r.Intn(3), Types: []api.TT{t()}, Kids: []api.TM{kid()}}
	case 7:
		return api.TM{Kind: chosen(r, api.XFold, api.XInst), Types: []api.TT{t()}, Kids: []api.TM{kid()}}
	case 8:
		return api.TM{Kind: api.XPack, Types: []api.TT{t(), t()}, Kids: []api.TM{kid()}}
	case 9, 10:
		return lam(someName(r), t(), kid())
	case 11, 12:
		return fix(someName(r), someName(r), t(), t(), kid())
	case 13, 14:
		return let(someName(r), kid(), kid())
	case 15, 16:
		return api.TM{Kind: api.XCase, Labels: []string{someName(r), someName(r)}, Kids: []api.TM{kid(), kid(), kid()}}
	case 17:
		return xall(r.Intn(4)-1, kid())
	}
	return open(r.Intn(4)-1, someName(r), kid(), kid())
}

// wildType: any data by chance, nested at most so deep.
func wildType(r *rand.Rand, depth int) api.TT {
	if r.Intn(3) == 0 {
		return plainType(r, depth)
	}
	t := api.TT{Kind: r.Intn(14) - 1, N: r.Intn(4) - 1}
	if r.Intn(20) == 0 {
		t.Kind, t.N = chosen(r, noKinds()...), chosen(r, edges()...)
	}
	for r.Intn(6) == 0 {
		t.Labels = append(t.Labels, someName(r))
	}
	for depth > 1 && r.Intn(3) > 0 {
		t.Kids = append(t.Kids, wildType(r, depth-1))
	}
	return t
}

// wildTerm: any data by chance, nested at most so deep.
func wildTerm(r *rand.Rand, depth int) api.TM {
	if r.Intn(4) == 0 {
		return plainTerm(r, depth)
	}
	m := api.TM{Kind: r.Intn(28) - 1, N: r.Intn(4) - 1, Name: someName(r)}
	if r.Intn(3) == 0 {
		m.Int = int64(r.Intn(4) - 1)
	}
	for r.Intn(3) == 0 {
		m.Labels = append(m.Labels, someName(r))
	}
	for depth > 1 && r.Intn(4) == 0 {
		m.Types = append(m.Types, wildType(r, min(depth-1, 3)))
	}
	for depth > 1 && r.Intn(3) > 0 {
		m.Kids = append(m.Kids, wildTerm(r, depth-1))
	}
	return m
}

func isBinder(kind int) bool { return kind == api.GMu || kind == api.GAll || kind == api.GEx }

// away: how many binders stand between the end of a list and the last one of a key in it, -1 if there is none.
func away[K comparable](l []K, key K) int {
	for i := range l {
		if l[len(l)-1-i] == key {
			return i
		}
	}
	return -1
}

// more: a list with more behind it, in new memory.
func more[K any](l []K, keys ...K) []K { return append(slices.Clip(l), keys...) }

// boundIn: the numbers and names that a term binds in one of its Kids, by the chapter's words.
func boundIn(m api.TM, i int) (numbers []int, names []string) {
	switch {
	case m.Kind == api.XLam:
		names = []string{m.Name}
	case m.Kind == api.XFix:
		names = more([]string{m.Name}, m.Labels[:min(1, len(m.Labels))]...)
	case m.Kind == api.XLet && i >= 1:
		names = []string{m.Name}
	case m.Kind == api.XOpen && i >= 1:
		numbers, names = []int{m.N}, []string{m.Name}
	case m.Kind == api.XAll:
		numbers = []int{m.N}
	case m.Kind == api.XCase && i >= 1 && i-1 < len(m.Labels):
		names = m.Labels[i-1 : i]
	}
	return numbers, names
}

// putting: what is put in for a number, where plainly goes through a type; nil for nothing.
type putting struct {
	n  int
	by api.TT
}

// plainly: all that a type is up to what is bound: in place of a number that is bound stands how many binders are nearer than its own one. With a type to put in, what comes of that.
func plainly(t api.TT, outer []int, put *putting) string {
	number := "N" + strconv.Itoa(t.N)
	inner := outer
	switch {
	case isBinder(t.Kind):
		number = "binds"
		inner = more(outer, t.N)
	case t.Kind == api.GVar && away(outer, t.N) >= 0:
		number = "away" + strconv.Itoa(away(outer, t.N))
	case t.Kind == api.GVar && put != nil && put.n == t.N:
		return plainly(put.by, nil, nil)
	}
	return "type" + strconv.Itoa(t.Kind) + " " + number + texts(t.Labels) + "{" + plainlyAll(t.Kids, inner, put) + "}"
}

func plainlyAll(l []api.TT, outer []int, put *putting) string {
	var b strings.Builder
	for _, t := range l {
		b.WriteString(plainly(t, outer, put) + ";")
	}
	return b.String()
}

func texts(l []string) string {
	var b strings.Builder
	for _, s := range l {
		b.WriteString(strconv.Quote(s) + ",")
	}
	return "[" + b.String() + "]"
}

// plainlyIn: the same of a term.
func plainlyIn(m api.TM, outer []int, outerNames []string, put *putting) string {
	number, name, labels := "N"+strconv.Itoa(m.N), strconv.Quote(m.Name), texts(m.Labels)
	switch m.Kind {
	case api.XVar:
		if i := away(outerNames, m.Name); i >= 0 {
			name = "away" + strconv.Itoa(i)
		}
	case api.XLam, api.XLet:
		name = "binds"
	case api.XFix:
		name = "binds"
		labels = strconv.Itoa(len(m.Labels)) + texts(m.Labels[min(1, len(m.Labels)):])
	case api.XCase:
		labels = strconv.Itoa(len(m.Labels))
	case api.XAll:
		number = "binds"
	case api.XOpen:
		number, name = "binds", "binds"
	}
	var b strings.Builder
	b.WriteString("term" + strconv.Itoa(m.Kind) + " " + number + " " + strconv.FormatInt(m.Int, 10) + name + labels + "<" + plainlyAll(m.Types, outer, put) + ">{")
	for i, kid := range m.Kids {
		numbers, names := boundIn(m, i)
		b.WriteString(plainlyIn(kid, more(outer, numbers...), more(outerNames, names...), put) + ";")
	}
	return b.String() + "}"
}

func plainType0(t api.TT) string { return plainly(t, nil, nil) }

func plainTerm0(m api.TM) string { return plainlyIn(m, nil, nil, nil) }

// brief: a text that is not too long to be told.
func brief(s string) string {
	if len(s) > 400 {
		return s[:400] + ".."
	}
	return s
}

// chain: a type that is nested so deep, by nodes of one kind.
func chain(kind, depth int, end api.TT) api.TT {
	for i := depth - 1; i > 0; i-- {
		switch kind {
		case api.GFn, api.GPair:
			if i%3 == 0 {
				end = tt(kind, 0, end, integer())
			} else {
				end = tt(kind, 0, integer(), end)
			}
		case api.GRec:
			end = api.TT{Kind: kind, Labels: []string{"l"}, Kids: []api.TT{end}}
		case api.GSum:
			end = tt(kind, 0, unit(), end, unit())
		default:
			end = tt(kind, i, end)
		}
	}
	return end
}

// xchain: a term that is nested so deep, by XTick.
func xchain(depth int, end api.TM) api.TM {
	for range depth - 1 {
		end = tm(api.XTick, end)
	}
	return end
}

// roomy: a type in new memory, with spare room behind each of its lists, in which something stands.
func roomy(t api.TT) api.TT {
	t.Labels = roomyTexts(t.Labels)
	t.Kids = roomyTypes(t.Kids)
	return t
}

func roomyTexts(l []string) []string { return append(append([]string{}, l...), "s", "t")[:len(l)] }

func roomyTypes(l []api.TT) []api.TT {
	var out []api.TT
	for _, t := range l {
		out = append(out, roomy(t))
	}
	return append(out, v(77), v(78))[:len(l)]
}

func roomyTerm(m api.TM) api.TM {
	m.Labels, m.Types = roomyTexts(m.Labels), roomyTypes(m.Types)
	var out []api.TM
	for _, kid := range m.Kids {
		out = append(out, roomyTerm(kid))
	}
	m.Kids = append(out, x("u"), xint(79))[:len(m.Kids)]
	return m
}

// tell: all that a type has, with what stands in the spare room of its lists.
func tell(t api.TT) string {
	var b strings.Builder
	b.WriteString(strconv.Itoa(t.Kind) + ":" + strconv.Itoa(t.N) + ":" + strconv.Itoa(len(t.Labels)) + texts(t.Labels[:cap(t.Labels)]) + strconv.Itoa(len(t.Kids)) + "{")
	for _, kid := range t.Kids[:cap(t.Kids)] {
		b.WriteString(tell(kid) + ";")
	}
	return b.String() + "}"
}

func tellTerm(m api.TM) string {
	var b strings.Builder
	b.WriteString(strconv.Itoa(m.Kind) + ":" + strconv.Itoa(m.N) + ":" + strconv.FormatInt(m.Int, 10) + strconv.Quote(m.Name) + texts(m.Labels[:cap(m.Labels)]))
	b.WriteString(tell(api.TT{N: len(m.Labels), Kids: m.Types}) + strconv.Itoa(len(m.Kids)) + "{")
	for _, kid := range m.Kids[:cap(m.Kids)] {
		b.WriteString(tellTerm(kid) + ";")
	}
	return b.String() + "}"
}
