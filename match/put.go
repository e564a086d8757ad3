package match

import (
	"wafer/api"
	"wafer/types"
)

// isOpen: does a type leave something open?
func isOpen(t api.Type) bool { return len(types.Gens(t)) > 0 }

// change: what comes for a stamp: a type that is put in, or, where the stamp is bound, another number.
type change struct {
	t     api.Type
	bound bool
}

// putter: puts types in place of free stamps, all through an Abs that is its own.
type putter struct {
	by    map[int]*change   // what comes for a stamp where the walk stands, nil: it stays
	comes map[int]struct{}  // the stamps that stand in what is put in, which nothing may catch
	taken map[int]struct{}  // all that stand anywhere
	spare int               // no number below it is to be had
	open  []map[int]*change // for each of what is bound here what comes for its stamps outside of it
	room  int               // so many nodes may the types have that are still to come: with more of them any structure is too great
}

func newPutter(a *api.Abs, stamps []int, l []api.Type) *putter {
	p := &putter{by: map[int]*change{}, comes: map[int]struct{}{}, taken: map[int]struct{}{}, room: api.MaxStr}
	take(p.taken, stamps)
	for i, n := range stamps {
		if _, ahead := p.by[n]; !ahead {
			p.by[n] = &change{t: l[i]}
		}
		take(p.comes, types.Stamps(l[i]))
		take(p.taken, types.Stamps(l[i]))
	}
	for x := range parts(a) {
		take(p.taken, x.stamps)
		if x.kind == stands {
			take(p.taken, types.Stamps(*x.t))
		}
	}
	return p
}

func take(set map[int]struct{}, l []int) {
	for _, n := range l {
		set[n] = struct{}{}
	}
}

// through: goes through the Abs; had all types room?
func (p *putter) through(a *api.Abs) bool {
	for x := range parts(a) {
		switch x.kind {
		case begins:
			p.enter(x.stamps)
		case ends:
			p.leave()
		case stands:
			if !p.put(x.t) {
				return false
			}
		}
	}
	return true
}

// enter: goes to where stamps are bound, which get other numbers, if they would catch what is put in.
func (p *putter) enter(stamps []int) {
	outside := map[int]*change{}
	for i, n := range stamps {
		if _, again := outside[n]; !again {
			outside[n] = p.by[n]
			p.by[n] = p.other(n)
		}
		if by := p.by[n]; by != nil {
			stamps[i] = by.t.N
		}
	}
	p.open = append(p.open, outside)
}

func (p *putter) leave() {
	last := len(p.open) - 1
	for n, by := range p.open[last] {
		p.by[n] = by
	}
	p.open = p.open[:last]
}

// other: a stamp that stands nowhere in place of one that is bound, nil if that may stay.
func (p *putter) other(n int) *change {
	if _, catches := p.comes[n]; !catches {
		return nil
	}
	for {
		n = p.spare
		p.spare++
		if _, taken := p.taken[n]; !taken {
			return &change{api.Type{Kind: api.TStamp, N: n}, true}
		}
	}
}

// put: puts types in place of stamps in a type; has it room?
func (p *putter) put(t *api.Type) bool {
	p.renumber(t)
	var from []int
	var to []api.Type
	for _, n := range types.Stamps(*t) {
		if by := p.by[n]; by != nil {
			from, to = append(from, n), append(to, by.t)
		}
	}
	is, err := types.Replace(*t, api.TStamp, from, to)
	if err != api.OK {
		return false
	}
	*t = is
	p.room -= types.Size(is)
	return p.room >= 0
}

// renumber: gives the stamps in a type that are bound their other numbers, which nothing is put in for.
func (p *putter) renumber(t *api.Type) {
	if by := p.by[t.N]; t.Kind == api.TStamp && by != nil && by.bound {
		t.N = by.t.N
	}
	for i := range t.Kids {
		p.renumber(&t.Kids[i])
	}
}
