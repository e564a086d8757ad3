package kernel

import (
	"slices"

	"wafer/api"
	"wafer/target"
)

// kinds: how many numbers there are up to the last kind of terms.
const kinds = api.XTick + 1

// rule: tells the type of a term of one kind, or gives up.
type rule func(*checker, *api.TM) *held

func rulesByKind() [kinds]rule {
	return [kinds]rule{
		api.XInt:    (*checker).integer,
		api.XBool:   (*checker).boolean,
		api.XUnit:   (*checker).unit,
		api.XVar:    (*checker).variable,
		api.XLam:    (*checker).function,
		api.XApp:    (*checker).application,
		api.XFix:    (*checker).fixpoint,
		api.XLet:    (*checker).let,
		api.XPair:   (*checker).pair,
		api.XFst:    (*checker).first,
		api.XSnd:    (*checker).second,
		api.XIf:     (*checker).condition,
		api.XBin:    (*checker).operation,
		api.XRec:    (*checker).record,
		api.XSel:    (*checker).selection,
		api.XInj:    (*checker).injection,
		api.XCase:   (*checker).choice,
		api.XFold:   (*checker).fold,
		api.XUnfold: (*checker).unfold,
		api.XAll:    (*checker).abstraction,
		api.XInst:   (*checker).instance,
		api.XPack:   (*checker).pack,
		api.XOpen:   (*checker).open,
		api.XFail:   (*checker).failure,
		api.XTick:   (*checker).step,
	}
}

func (c *checker) integer(m *api.TM) *held { return leaf(api.GInt) }

func (c *checker) boolean(m *api.TM) *held { return leaf(api.GBool) }

func (c *checker) unit(m *api.TM) *held { return leaf(api.GUnit) }

func (c *checker) variable(m *api.TM) *held {
	t := c.names[m.Name]
	must(t != nil)
	return t
}

func (c *checker) function(m *api.TM) *held {
	arg := c.typeIn(m, 0)
	return made(api.TT{Kind: api.GFn}, arg, c.under(&m.Kids[0], named{m.Name, arg}))
}

func (c *checker) application(m *api.TM) *held {
	f, arg := c.of(&m.Kids[0]), c.of(&m.Kids[1])
	ends := kids(f.TT, api.GFn, 2)
	must(target.SameType(ends[0], arg.TT))
	return part(ends[1])
}

func (c *checker) fixpoint(m *api.TM) *held {
	arg, result := c.typeIn(m, 0), c.typeIn(m, 1)
	whole := made(api.TT{Kind: api.GFn}, arg, result)
	whole.mustFit()
	body := c.under(&m.Kids[0], named{m.Name, whole}, named{m.Labels[0], arg})
	must(one(body, result))
	return whole
}

func (c *checker) let(m *api.TM) *held {
	t := c.of(&m.Kids[0])
	return c.under(&m.Kids[1], named{m.Name, t})
}

func (c *checker) pair(m *api.TM) *held {
	return made(api.TT{Kind: api.GPair}, c.of(&m.Kids[0]), c.of(&m.Kids[1]))
}

func (c *checker) first(m *api.TM) *held { return part(kids(c.of(&m.Kids[0]).TT, api.GPair, 2)[0]) }

func (c *checker) second(m *api.TM) *held { return part(kids(c.of(&m.Kids[0]).TT, api.GPair, 2)[1]) }

func (c *checker) condition(m *api.TM) *held {
	asked, then, other := c.of(&m.Kids[0]), c.of(&m.Kids[1]), c.of(&m.Kids[2])
	must(asked.Kind == api.GBool && one(then, other))
	return then
}

func (c *checker) operation(m *api.TM) *held {
	a, b := c.of(&m.Kids[0]), c.of(&m.Kids[1])
	must(a.Kind == api.GInt && b.Kind == api.GInt)
	if m.N >= api.OEq {
		return leaf(api.GBool)
	}
	return leaf(api.GInt)
}

func (c *checker) record(m *api.TM) *held {
	var fields []*held
	for i := range m.Kids {
		fields = append(fields, c.of(&m.Kids[i]))
	}
	return made(api.TT{Kind: api.GRec, Labels: m.Labels}, fields...)
}

func (c *checker) selection(m *api.TM) *held {
	t := c.of(&m.Kids[0])
	fields := kids(t.TT, api.GRec, len(t.Labels))
	i, ok := slices.BinarySearch(t.Labels, m.Name)
	must(ok)
	return part(fields[i])
}

func (c *checker) injection(m *api.TM) *held {
	sum := c.typeIn(m, 0)
	must(sum.Kind == api.GSum && m.N < len(sum.Kids))
	kid := c.of(&m.Kids[0])
	must(target.SameType(kid.TT, sum.Kids[m.N]))
	return sum
}

// choice: without the sum's Kids the branches have no surroundings, so it is asked for ahead of them; the branches are held against each other behind the last one.
func (c *checker) choice(m *api.TM) *held {
	inner := kids(c.of(&m.Kids[0]).TT, api.GSum, len(m.Labels))
	must(len(inner) > 0)
	var branches []*held
	for i, name := range m.Labels {
		branches = append(branches, c.under(&m.Kids[i+1], named{name, part(inner[i])}))
	}
	for _, b := range branches[1:] {
		must(one(branches[0], b))
	}
	return branches[0]
}

func (c *checker) fold(m *api.TM) *held {
	whole := c.typeIn(m, 0)
	must(whole.Kind == api.GMu)
	kid := c.of(&m.Kids[0])
	must(one(kid, opened(whole.TT, api.GMu, whole.TT)))
	return whole
}

func (c *checker) unfold(m *api.TM) *held {
	t := c.of(&m.Kids[0])
	return opened(t.TT, api.GMu, t.TT)
}

func (c *checker) abstraction(m *api.TM) *held {
	c.bind(m.N)
	t := c.of(&m.Kids[0])
	c.unbind(m.N)
	return made(api.TT{Kind: api.GAll, N: m.N}, t)
}

func (c *checker) instance(m *api.TM) *held {
	by := c.typeIn(m, 0)
	return opened(c.of(&m.Kids[0]).TT, api.GAll, by.TT)
}

func (c *checker) pack(m *api.TM) *held {
	hidden, whole := c.typeIn(m, 0), c.typeIn(m, 1)
	must(whole.Kind == api.GEx)
	kid := c.of(&m.Kids[0])
	must(one(kid, opened(whole.TT, api.GEx, hidden.TT)))
	return whole
}

// open: the second Kid has no surroundings unless the first one's type is a GEx and the number is new, so both are asked for between the two.
func (c *checker) open(m *api.TM) *held {
	packed := c.of(&m.Kids[0])
	inner := opened(packed.TT, api.GEx, api.TT{Kind: api.GVar, N: m.N})
	c.bind(m.N)
	t := c.under(&m.Kids[1], named{m.Name, inner})
	c.unbind(m.N)
	_, free := slices.BinarySearch(t.free(), m.N)
	must(!free)
	return t
}

func (c *checker) failure(m *api.TM) *held { return c.typeIn(m, 0) }

func (c *checker) step(m *api.TM) *held { return c.of(&m.Kids[0]) }
