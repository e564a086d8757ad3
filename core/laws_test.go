package core_test

import (
	"fmt"
	"slices"
	"strconv"
	"strings"
	"testing"

	"wafer/api"
	"wafer/core"
	"wafer/env"
	"wafer/names"
	"wafer/scheme"
	"wafer/target"
	"wafer/tree"
	"wafer/types"
)

// TestF161ByChance: Dec answers what the chapter's words say, for declarations by chance, right and not.
func TestF161ByChance(t *testing.T) {
	t.Parallel()
	newMaker := makers()
	e, seen := place(), map[string]int{}
	for seed := range int64(16000) {
		m := newMaker(seed)
		d := m.someDec(2 + m.Intn(4))
		is, ok := plainDec(e, d)
		if !ok {
			continue
		}
		if got := answer(e, d); got != is {
			t.Fatalf("%d: %s: %s, want %s", seed, show(d), got, is)
		}
		switch {
		case strings.HasPrefix(is, "Err"):
			seen[is]++
		case strings.Contains(is, "'"):
			seen["open"]++
		default:
			seen["closed"]++
		}
	}
	for what, least := range map[string]int{"open": 3000, "closed": 1500, "ErrType": 1500, "ErrFree": 500, "ErrTwice": 100, "ErrUnbound": 500, "ErrTyvar": 100} {
		if seen[what] < least {
			t.Errorf("%v: the test does not try much", seen)
		}
	}
}

// instance: a closed instance of a scheme.
func (m *maker) instance(s api.Scheme) api.Type {
	var l []api.Type
	for range s.Gens {
		l = append(l, m.typeOf(2))
	}
	t, err := scheme.Instance(s, l)
	if err != api.OK {
		panic("no instance")
	}
	return t
}

// TestP1602: an expression that is a value keeps being typed with an annotation of a closed instance of its type, and has that type then; with no other one.
func TestP1602(t *testing.T) {
	t.Parallel()
	newMaker := makers()
	e, tried, refused, kept := place(), 0, 0, 0
	for seed := range int64(12000) {
		m := newMaker(seed)
		x := m.someDec(3 + m.Intn(2)).Exps[0]
		s, _, err := core.Exp(e, x)
		if err != api.OK {
			continue
		}
		own := m.instance(s)
		got, _, err := core.Exp(e, ann(x, written(own)))
		if err != api.OK || !types.SameScheme(got, types.Mono(own)) {
			t.Fatalf("%d: %s as %s: %s, %v", seed, show(val("it", x)), types.Text(own), types.SchemeText(got), err)
		}
		if s.Gens > 0 {
			tried++
		}
		other := m.typeOf(3)
		if m.Intn(2) == 0 {
			other = m.alike(s.T)
		}
		fits := scheme.AtLeast(s, types.Mono(other))
		_, _, err = core.Exp(e, ann(x, written(other)))
		switch {
		case fits != (err == api.OK) || !fits && err != api.ErrType:
			t.Fatalf("%d: %s, %s, as %s: %v", seed, show(val("it", x)), types.SchemeText(s), types.Text(other), err)
		case fits:
			kept++
		default:
			refused++
		}
	}
	if tried < 1000 || refused < 1000 || kept < 300 {
		t.Errorf("%d, %d, %d: the test does not try much", tried, refused, kept)
	}
}

// alike: a closed type that is formed as another one, but for small parts.
func (m *maker) alike(t api.Type) api.Type {
	if t.Kind == api.TGen || m.Intn(12) == 0 {
		return m.typeOf(2)
	}
	out := node(t.Kind, t.N)
	for _, kid := range t.Kids {
		out.Kids = append(out.Kids, m.alike(kid))
	}
	return out
}

// renaming: what gives the names that a declaration binds others throughout.
type renaming struct {
	count int
	only  string // the one name that is given another, if it is not empty
}

// newNames: what names are called now.
type newNames map[string]string

func (n newNames) with(name, is string) newNames {
	out := newNames{name: is}
	for k, v := range n {
		if k != name {
			out[k] = v
		}
	}
	return out
}

func (r *renaming) name(old string) string {
	if r.only != "" && r.only != old {
		return old
	}
	r.count++
	return "new_" + strconv.Itoa(r.count)
}

func (r *renaming) bind(in newNames, l ...string) newNames {
	for _, name := range names.Set(l) {
		in = in.with(name, r.name(name))
	}
	return in
}

func (r *renaming) pat(p *api.Pat, in newNames) newNames {
	in = r.bind(in, tree.Binders(*p)...)
	var put func(p *api.Pat)
	put = func(p *api.Pat) {
		if p.Kind == api.PVar {
			p.Name = in[p.Name]
		}
		for i := range p.Kids {
			put(&p.Kids[i])
		}
	}
	put(p)
	return in
}

func (r *renaming) exp(x *api.Exp, in newNames) {
	if x.Kind == api.EVar && len(x.Path) == 1 {
		if now, ok := in[x.Path[0]]; ok {
			x.Path = []string{now}
		}
	}
	for i := range x.Decs {
		own := x.Decs[i].Name
		in = r.dec(&x.Decs[i], in)
		if x.Decs[i].Kind == api.DVal {
			x.Decs[i].Name = r.name(own)
			in = in.with(own, x.Decs[i].Name)
		}
	}
	first := 0
	if x.Kind == api.ECase {
		r.exp(&x.Kids[0], in)
		first = 1
	}
	for i := first; i < len(x.Kids); i++ {
		own := in
		if len(x.Pats) > 0 {
			own = r.pat(&x.Pats[i-first], in)
		}
		r.exp(&x.Kids[i], own)
	}
}

// dec: what is bound behind a DFun; the name of a DVal is given by whoever asks.
func (r *renaming) dec(d *api.Dec, in newNames) newNames {
	if d.Kind == api.DVal {
		r.exp(&d.Exps[0], in)
		return in
	}
	old := d.Name
	all := r.bind(in, append([]string{d.Name}, d.Params...)...)
	d.Name = all[d.Name]
	for i := range d.Params {
		d.Params[i] = all[d.Params[i]]
	}
	r.exp(&d.Exps[0], all)
	return in.with(old, d.Name)
}

// TestP1603: with bound names given others throughout, all of them or one, the scheme and the error stay.
func TestP1603(t *testing.T) {
	t.Parallel()
	newMaker := makers()
	e, changed := place(), 0
	for seed := range int64(8000) {
		m := newMaker(seed)
		d := m.someDec(3 + m.Intn(2))
		other := tree.Copy([]api.Dec{d})[0]
		r := renaming{only: chosen(m, "", m.name(), "x", "f")}
		r.dec(&other, nil)
		got, want := answer(e, other), answer(e, d)
		if got != want {
			t.Fatalf("%d: %s: %s, but %s: %s", seed, show(d), want, show(other), got)
		}
		if r.count > 0 && !strings.HasPrefix(want, "Err") {
			changed++
		}
	}
	if changed < 2500 {
		t.Errorf("%d: the test does not try much", changed)
	}
}

// TestP1603Run: and the term goes on the same.
func TestP1603Run(t *testing.T) {
	t.Parallel()
	newMaker := makers()
	p := placed(place())
	for seed := range int64(2500) {
		m := newMaker(seed)
		d := m.someDec(3)
		if _, _, err := core.Dec(p.e, d); err != api.OK {
			continue
		}
		other := tree.Copy([]api.Dec{d})[0]
		(&renaming{}).dec(&other, nil)
		s, x := p.typed(t, d)
		_, y := p.typed(t, other)
		if got, want := meant(y, 40, s.T), meant(x, 40, s.T); got != want {
			t.Fatalf("%d: %s: %s, but %s: %s", seed, show(d), want, show(other), got)
		}
	}
}

// with: an expression with another one in place of a name that it does not bind.
func with(x api.Exp, name string, by api.Exp) api.Exp {
	if x.Kind == api.EVar && len(x.Path) == 1 && x.Path[0] == name {
		return by
	}
	x.Kids = slices.Clone(x.Kids)
	for i := range x.Kids {
		x.Kids[i] = with(x.Kids[i], name, by)
	}
	x.Decs = slices.Clone(x.Decs)
	for i, d := range x.Decs {
		x.Decs[i].Exps = []api.Exp{with(d.Exps[0], name, by)}
	}
	return x
}

// TestP1604: with a value that is declared in an ELet in place of its name the Kid is typed the same.
func TestP1604(t *testing.T) {
	t.Parallel()
	newMaker := makers()
	e, typed, failed := place(), 0, 0
	for seed := range int64(12000) {
		m := newMaker(seed)
		// Values whose names nobody binds, so that none is caught.
		value := exp(chosen(m, "fn w => w", "fn w => fn v => w", "(fn w => w, 1)", "fn (w, v) => (v, w)", "swap", "M.dup", "(1, true)", "Cons (1, Nil)", "fn w => M.on inc w", "((fn w => w : int -> int), inc)", "fn w => let val v = w in (v, w) end", "Act (fn w => w)", "twice"))
		own := "own"
		body := m.dec(3, scope{{own, m.scheme(val("w", value), nil)}}).Exps[0]
		d := val("x", body)
		for _, x := range expsOf(&d) {
			if m.Intn(4) == 0 && (x.Kind == api.EVar || x.Kind == api.EInt) {
				*x = id(own)
				if m.Intn(2) == 0 {
					*x = apply(id(own), num(1))
				}
			}
		}
		// The whole is no value, so that both stand in a function, which is one.
		got := answer(e, val("x", fnOf(pat("_"), letIn(d.Exps[0], val(own, value)))))
		want := answer(e, val("x", fnOf(pat("_"), with(d.Exps[0], own, value))))
		if got != want {
			t.Fatalf("%d: %s in %s: %s, put in: %s", seed, show(val(own, value)), show(d), got, want)
		}
		if strings.HasPrefix(got, "Err") {
			failed++
		} else if _, ok := named(d)[own]; ok {
			typed++
		}
	}
	if typed < 1500 || failed < 500 {
		t.Errorf("%d, %d: the test does not try much", typed, failed)
	}
}

// more: an environment with entries that a declaration does not name, and some of names that it does name, ahead of their own.
func (m *maker) more(e env.Env, d api.Dec) env.Env {
	out := env.Env{}
	used := named(d)
	for name := range used {
		used[strings.Split(name, ".")[0]] = struct{}{}
	}
	add := func(i int) string {
		name := chosen(m, "one", "ident", "f", "x", "nope", "more", "y", "g", "nums")
		if _, ok := used[name]; ok && i > 0 {
			return "other"
		}
		return name
	}
	some := func(i int) {
		for range 1 + m.Intn(3) {
			s := types.Mono(m.typeOf(3))
			if m.Intn(2) == 0 {
				s = api.Scheme{Gens: 1, T: fn(gen(0), s.T)}
			}
			// An entry ahead of none of its name would be named, if the declaration names it.
			if name := add(i); i > 0 || slices.ContainsFunc(e.Vals, func(x env.Val) bool { return x.Name == name }) {
				out.Vals = append(out.Vals, env.Val{Name: name, S: s, X: v(name)})
			}
		}
		n := 80 + m.Intn(20)
		c := chosen(m, "Nil", "Cons", "Dot")
		if i > 0 {
			c = "Other"
		}
		all := []api.Ctor{ctor(c, m.typeOf(2))}
		out.Cons = append(out.Cons, env.Con{Name: c, T: stamp(n), Args: all[0].Args, All: all, X: v("Other()"), Out: v("out other")})
		at := chosen(m, "list", "hid", "two")
		if i > 0 {
			at = "others"
		}
		out.Typs = append(out.Typs, env.Typ{Name: at, T: stamp(n), Ctors: all})
		sub := "M"
		if i > 0 {
			sub = "L"
		}
		s := api.Str{Vals: []api.ValMember{{Name: "x", S: types.Mono(m.typeOf(2))}}}
		out.Subs = append(out.Subs, env.Sub{Name: sub, S: s, X: v(sub + "0")})
		out.Funs = append(out.Funs, env.Fun{Name: chosen(m, "M", "F"), F: api.Fun{Stamps: []int{90}, Arg: s, Res: api.Abs{S: s}}, X: v("F")})
		out.Sigs = append(out.Sigs, env.Sig{Name: chosen(m, "M", "S"), A: api.Abs{Stamps: []int{91}, S: s}})
	}
	some(0)
	out.Vals, out.Cons, out.Typs, out.Subs = append(out.Vals, e.Vals...), append(out.Cons, e.Cons...), append(out.Typs, e.Typs...), append(out.Subs, e.Subs...)
	some(1)
	return out
}

// TestP1605: entries that are not named, or stand ahead of others of their name, change nothing.
func TestP1605(t *testing.T) {
	t.Parallel()
	newMaker := makers()
	e, typed := place(), 0
	for seed := range int64(8000) {
		m := newMaker(seed)
		d := m.someDec(2 + m.Intn(3))
		more := m.more(e, d)
		if got, want := answer(more, d), answer(e, d); got != want {
			t.Fatalf("%d: %s: %s, want %s", seed, show(d), got, want)
		}
		_, x, err := core.Dec(e, d)
		_, y, _ := core.Dec(more, d)
		if !target.SameTerm(x, y) {
			t.Fatalf("%d: %s: another term", seed, show(d))
		}
		if err == api.OK {
			typed++
		}
	}
	if typed < 3000 {
		t.Errorf("%d: the test does not try much", typed)
	}
	// Of nothing that is named nothing is needed.
	for _, s := range []string{"val x = fn x => x", "fun f x y = if x = 1 then f 2 y else y", "val x = let val y = (1, true) in case y of (z, _) => z end end"} {
		if got, want := answer(e, dec(s)), answer(env.Env{}, dec(s)); got != want {
			t.Errorf("%s: %s, want %s", s, got, want)
		}
	}
}

// TestSameAnswers: the same call answers the same.
func TestSameAnswers(t *testing.T) {
	newMaker := makers()
	e := place()
	for seed := range int64(500) {
		d := newMaker(seed).someDec(4)
		var first string
		for i := range 3 {
			s, x, err := core.Dec(e, d)
			got := fmt.Sprint(tell(s), tell(x), err)
			if i > 0 && got != first {
				t.Fatalf("%d: %s: another answer", seed, show(d))
			}
			first = got
		}
	}
}
