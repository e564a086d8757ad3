package pattern

import (
	"slices"
	"strconv"

	"wafer/api"
	"wafer/renew"
	"wafer/target"
)

// layer: lays something around a term.
type layer func(within api.TM) api.TM

// trier: one call of Term.
type trier struct {
	constructors
	taken  map[string]struct{} // names that may not be bound beside
	count  int                 // how many names were looked at for that
	tries  []layer             // what is tried, from the outside in
	binds  []layer             // what binds the pattern's names: within all tries, so that neither no nor a constructor's out stands within it
	fails  int                 // how many places the tries go on as no at
	refuse func() api.TM       // what stands at such a place, in new memory each time
}

func newTrier(cons constructors, on string, yes, no api.TM) *trier {
	t := &trier{constructors: cons, taken: map[string]struct{}{on: {}}}
	t.take(yes)
	t.take(no)
	for _, con := range cons {
		t.take(con.Out)
	}
	return t
}

// take: the names that stand free in a term may not be bound around it.
func (t *trier) take(m api.TM) {
	for _, name := range target.FreeNames(m) {
		t.taken[name] = struct{}{}
	}
}

// name: a new one, to be bound beside the pattern's.
func (t *trier) name() string {
	for {
		name := "$" + strconv.Itoa(t.count)
		t.count++
		if _, taken := t.taken[name]; !taken {
			return name
		}
	}
}

// try: keeps what tries a right pattern on what a variable has.
func (t *trier) try(p *api.Pat, on string) {
	switch p.Kind {
	case api.PVar:
		t.binds = append(t.binds, func(within api.TM) api.TM { return let(p.Name, variable(on), within) })
	case api.PInt:
		t.choice(func(within api.TM) api.TM { return choose(isInt(on, p.N), within, t.refuse()) })
	case api.PTrue:
		t.choice(func(within api.TM) api.TM { return choose(variable(on), within, t.refuse()) })
	case api.PFalse:
		t.choice(func(within api.TM) api.TM { return choose(variable(on), t.refuse(), within) })
	case api.PPair:
		t.part(&p.Kids[0], api.XFst, on)
		t.part(&p.Kids[1], api.XSnd, on)
	case api.PCon:
		t.made(p, on)
	}
}

// choice: keeps a try that goes on as no at one place.
func (t *trier) choice(l layer) {
	t.fails++
	t.tries = append(t.tries, l)
}

// part: keeps what tries a pattern on one part of the pair that a variable has.
func (t *trier) part(p *api.Pat, kind int, on string) {
	if p.Kind == api.PAny || p.Kind == api.PUnit {
		return
	}
	name := t.name()
	t.tries = append(t.tries, func(within api.TM) api.TM { return let(name, node(kind, variable(on)), within) })
	t.try(p, name)
}

// made: keeps what tries a constructor, and what it has, on what a variable has.
func (t *trier) made(p *api.Pat, on string) {
	con, name := t.of(p), t.name()
	for i := range con.All {
		if i != con.N {
			t.fails++
		}
	}
	t.tries = append(t.tries, func(within api.TM) api.TM {
		m := node(api.XCase, node(api.XApp, renewed(con.Out), variable(on)))
		for i := range con.All {
			branch := within
			if i != con.N {
				branch = t.refuse()
			}
			m.Labels = append(m.Labels, name)
			m.Kids = append(m.Kids, branch)
		}
		return m
	})
	for i := range p.Kids {
		t.try(&p.Kids[i], name)
	}
}

// around: all that was kept, laid around yes from the inside out.
func (t *trier) around(yes, no api.TM) api.TM {
	t.refuse = func() api.TM { return renewed(no) }
	if t.fails > 1 {
		t.share(no)
	}
	m := renewed(yes)
	for _, l := range slices.Backward(slices.Concat(t.tries, t.binds)) {
		m = l(m)
	}
	return m
}

// share: has no stand but once, as a function ahead of all tries that is applied at each place: else, where each of many patterns is a part of the no of the one before, the term would grow by a factor with each.
func (t *trier) share(no api.TM) {
	name, nothing := t.name(), t.name()
	t.refuse = func() api.TM { return node(api.XApp, variable(name), node(api.XUnit)) }
	t.tries = slices.Insert(t.tries, 0, func(within api.TM) api.TM {
		function := node(api.XLam, renewed(no))
		function.Name, function.Types = nothing, []api.TT{{Kind: api.GUnit}}
		return let(name, function, within)
	})
}

// renewed: the same term in new memory.
func renewed(m api.TM) api.TM {
	renew.Term(&m)
	return m
}

func node(kind int, kids ...api.TM) api.TM { return api.TM{Kind: kind, Kids: kids} }

func variable(name string) api.TM { return api.TM{Kind: api.XVar, Name: name} }

func let(name string, is, within api.TM) api.TM {
	m := node(api.XLet, is, within)
	m.Name = name
	return m
}

func choose(what, then, other api.TM) api.TM { return node(api.XIf, what, then, other) }

// isInt: has a variable that number?
func isInt(on string, n int64) api.TM {
	m := node(api.XBin, variable(on), api.TM{Kind: api.XInt, Int: n})
	m.N = api.OEq
	return m
}
