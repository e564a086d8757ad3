package kernel_test

import (
	"slices"
	"strconv"
	"strings"
	"testing"

	"wafer/api"
	"wafer/kernel"
	"wafer/target"
)

func tt(kind, n int, kids ...api.TT) api.TT { return api.TT{Kind: kind, N: n, Kids: kids} }

func v(n int) api.TT { return tt(api.GVar, n) }

func fn(a, b api.TT) api.TT { return tt(api.GFn, 0, a, b) }

func pair(a, b api.TT) api.TT { return tt(api.GPair, 0, a, b) }

func sum(kids ...api.TT) api.TT { return tt(api.GSum, 0, kids...) }

func mu(n int, kid api.TT) api.TT { return tt(api.GMu, n, kid) }

func all(n int, kid api.TT) api.TT { return tt(api.GAll, n, kid) }

func some(n int, kid api.TT) api.TT { return tt(api.GEx, n, kid) }

func integer() api.TT { return tt(api.GInt, 0) }

func boolean() api.TT { return tt(api.GBool, 0) }

func unit() api.TT { return tt(api.GUnit, 0) }

// rec: a record's type; the labels are divided by blanks.
func rec(labels string, kids ...api.TT) api.TT {
	return api.TT{Kind: api.GRec, Labels: strings.Fields(labels), Kids: kids}
}

func tm(kind int, kids ...api.TM) api.TM { return api.TM{Kind: kind, Kids: kids} }

// typed: a term that names types and has one Kid.
func typed(kind, n int, kid api.TM, types ...api.TT) api.TM {
	return api.TM{Kind: kind, N: n, Types: types, Kids: []api.TM{kid}}
}

func xint(n int64) api.TM { return api.TM{Kind: api.XInt, Int: n} }

func xbool(n int64) api.TM { return api.TM{Kind: api.XBool, Int: n} }

func xunit() api.TM { return tm(api.XUnit) }

func x(name string) api.TM { return api.TM{Kind: api.XVar, Name: name} }

func lam(name string, t api.TT, kid api.TM) api.TM {
	return api.TM{Kind: api.XLam, Name: name, Types: []api.TT{t}, Kids: []api.TM{kid}}
}

func app(a, b api.TM) api.TM { return tm(api.XApp, a, b) }

func fix(name, label string, t, u api.TT, kid api.TM) api.TM {
	return api.TM{Kind: api.XFix, Name: name, Labels: []string{label}, Types: []api.TT{t, u}, Kids: []api.TM{kid}}
}

func let(name string, a, b api.TM) api.TM {
	return api.TM{Kind: api.XLet, Name: name, Kids: []api.TM{a, b}}
}

func xpair(a, b api.TM) api.TM { return tm(api.XPair, a, b) }

func bin(op int, a, b api.TM) api.TM {
	return api.TM{Kind: api.XBin, N: op, Kids: []api.TM{a, b}}
}

// xrec: a record; the labels are divided by blanks.
func xrec(labels string, kids ...api.TM) api.TM {
	return api.TM{Kind: api.XRec, Labels: strings.Fields(labels), Kids: kids}
}

func sel(label string, kid api.TM) api.TM {
	return api.TM{Kind: api.XSel, Name: label, Kids: []api.TM{kid}}
}

func inj(n int, t api.TT, kid api.TM) api.TM { return typed(api.XInj, n, kid, t) }

// xcase: a term that looks at a sum; the labels are divided by blanks.
func xcase(labels string, kids ...api.TM) api.TM {
	return api.TM{Kind: api.XCase, Labels: strings.Fields(labels), Kids: kids}
}

func fold(t api.TT, kid api.TM) api.TM { return typed(api.XFold, 0, kid, t) }

func unfold(kid api.TM) api.TM { return tm(api.XUnfold, kid) }

func xall(n int, kid api.TM) api.TM { return api.TM{Kind: api.XAll, N: n, Kids: []api.TM{kid}} }

func inst(t api.TT, kid api.TM) api.TM { return typed(api.XInst, 0, kid, t) }

func pack(hidden, whole api.TT, kid api.TM) api.TM { return typed(api.XPack, 0, kid, hidden, whole) }

func open(n int, name string, a, b api.TM) api.TM {
	return api.TM{Kind: api.XOpen, N: n, Name: name, Kids: []api.TM{a, b}}
}

func fail(t api.TT) api.TM { return api.TM{Kind: api.XFail, Types: []api.TT{t}} }

func tick(kid api.TM) api.TM { return tm(api.XTick, kid) }

// binds: names with their types, by turns.
func binds(l ...any) []kernel.Bind {
	var out []kernel.Bind
	for i := 0; i < len(l); i += 2 {
		out = append(out, kernel.Bind{Name: l[i].(string), T: l[i+1].(api.TT)})
	}
	return out
}

// nodes: a type of just so many nodes, which takes little memory.
func nodes(k int) api.TT {
	switch {
	case k == 1:
		return unit()
	case k%2 == 0:
		return sum(nodes(k - 1))
	}
	half := nodes(k / 2)
	return pair(half, half)
}

// answer: what a call answered, in one text.
func answer(t api.TT, e api.Errno) string {
	if e != api.OK {
		text := "error " + strconv.Itoa(int(e))
		if t.Kind != 0 || t.N != 0 || t.Labels != nil || t.Kids != nil {
			text += ", and a type"
		}
		return text
	}
	if size := target.Size(t, 1000); size > 1000 {
		return strconv.Itoa(target.Size(t, 4*kernel.MaxTT)) + " nodes"
	}
	return target.Text(t)
}

const (
	notRight = "error 1"
	big      = "error 3"
	deep     = "error 4"
	none     = "error 30"
)

// asked: a term in its surroundings, and the answer that Check must give.
type asked struct {
	m    api.TM
	vars []int
	l    []kernel.Bind
	want string
}

// askAll: asks Check for each, and Closed where nothing is in scope.
func askAll(t *testing.T, l []asked) {
	t.Helper()
	for i, c := range l {
		if got := answer(kernel.Check(c.m, c.vars, c.l)); got != c.want {
			t.Errorf("%d: Check(%s): %s, want %s", i, show(c.m), got, c.want)
		}
		if len(c.vars) == 0 && len(c.l) == 0 {
			if got := answer(kernel.Closed(c.m)); got != c.want {
				t.Errorf("%d: Closed(%s): %s, want %s", i, show(c.m), got, c.want)
			}
		}
	}
}

// show: a term's text, unless it is too long to be told.
func show(m api.TM) string {
	if target.Nodes(m, 200) > 200 {
		return "a term of kind " + strconv.Itoa(m.Kind)
	}
	return target.Show(m)
}

// tell: all that a type has, with what stands in the spare room of its lists.
func tell(t api.TT) string {
	var b strings.Builder
	b.WriteString(strconv.Itoa(t.Kind) + ":" + strconv.Itoa(t.N) + tellTexts(t.Labels) + strconv.Itoa(len(t.Kids)) + "{")
	for _, kid := range t.Kids[:cap(t.Kids)] {
		b.WriteString(tell(kid) + ";")
	}
	return b.String() + "}"
}

func tellTexts(l []string) string {
	return strconv.Itoa(len(l)) + "[" + strings.Join(l[:cap(l)], ",") + "]"
}

func tellTerm(m api.TM) string {
	var b strings.Builder
	b.WriteString(strconv.Itoa(m.Kind) + ":" + strconv.Itoa(m.N) + ":" + strconv.FormatInt(m.Int, 10) + m.Name + tellTexts(m.Labels))
	b.WriteString(tell(api.TT{Kids: m.Types}) + strconv.Itoa(len(m.Kids)) + "{")
	for _, kid := range m.Kids[:cap(m.Kids)] {
		b.WriteString(tellTerm(kid) + ";")
	}
	return b.String() + "}"
}

// roomy: a type in new memory, with spare room behind each of its lists, in which something stands.
func roomy(t api.TT) api.TT {
	t.Labels, t.Kids = roomyTexts(t.Labels), roomyTypes(t.Kids)
	return t
}

func roomyTexts(l []string) []string { return append(slices.Clone(l), "s", "t")[:len(l)] }

func roomyTypes(l []api.TT) []api.TT {
	var out []api.TT
	for _, t := range l {
		out = append(out, roomy(t))
	}
	return append(out, v(77), v(78))[:len(l)]
}

func roomyTerm(m api.TM) api.TM {
	m.Labels, m.Types = roomyTexts(m.Labels), roomyTypes(m.Types)
	var out []api.TM
	for _, kid := range m.Kids {
		out = append(out, roomyTerm(kid))
	}
	m.Kids = append(out, x("u"), xint(79))[:len(m.Kids)]
	return m
}

// kernelCheck: Check with some numbers in scope.
func kernelCheck(m api.TM, l []kernel.Bind) (api.TT, api.Errno) {
	return kernel.Check(m, []int{0, 1}, l)
}
