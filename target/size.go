package target

import "wafer/api"

// meter: counts nodes up to the first one too many.
type meter struct{ nodes, most int }

// count: counts one node, and tells whether to go on.
func (c *meter) count() bool {
	c.nodes++
	return c.nodes <= c.most
}

func (c *meter) countType(t *api.TT) bool {
	return c.count() && c.countTypes(t.Kids)
}

func (c *meter) countTypes(l []api.TT) bool {
	for i := range l {
		if !c.countType(&l[i]) {
			return false
		}
	}
	return true
}

func (c *meter) countTerm(m *api.TM) bool {
	if !c.count() || !c.countTypes(m.Types) {
		return false
	}
	for i := range m.Kids {
		if !c.countTerm(&m.Kids[i]) {
			return false
		}
	}
	return true
}
