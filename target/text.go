package target

import (
	"strconv"

	"wafer/api"
)

// text: writes a type as Text tells it.
func (w *walker) text(t *api.TT) {
	if !countsFit(t) {
		w.WriteByte('?')
		return
	}
	switch t.Kind {
	case api.GInt:
		w.WriteString("int")
	case api.GBool:
		w.WriteString("bool")
	case api.GUnit:
		w.WriteString("unit")
	case api.GFn:
		w.closed(&t.Kids[0])
		w.WriteString(" -> ")
		w.text(&t.Kids[1])
	case api.GPair:
		w.WriteByte('(')
		w.closed(&t.Kids[0])
		w.WriteString(" * ")
		w.closed(&t.Kids[1])
		w.WriteByte(')')
	case api.GVar:
		w.variable(t.N)
	case api.GRec:
		w.record(t)
	case api.GSum:
		w.sum(t)
	case api.GMu:
		w.binder("mu", t)
	case api.GAll:
		w.binder("all", t)
	case api.GEx:
		w.binder("some", t)
	}
}

// countsFit: is it of a kind that there is, with as many Kids as it must have, and as many Labels, where it is a GRec?
func countsFit(t *api.TT) bool {
	near, ok := nearType(t.Kind, typeShape{kids: len(t.Kids)})
	return ok && near.kids == len(t.Kids) && (t.Kind != api.GRec || near.labels == len(t.Labels))
}

// closed: writes a type where its text must hold together: those that are open at an end stand in parentheses.
func (w *walker) closed(t *api.TT) {
	if t.Kind != api.GFn && !binds(t) {
		w.text(t)
		return
	}
	w.WriteByte('(')
	w.text(t)
	w.WriteByte(')')
}

func (w *walker) variable(n int) {
	if at, bound := w.numbers.find(n); bound {
		w.numbered('t', at)
		return
	}
	w.numbered('#', n)
}

func (w *walker) numbered(sign byte, n int) {
	w.WriteByte(sign)
	w.WriteString(strconv.Itoa(n))
}

func (w *walker) record(t *api.TT) {
	w.WriteByte('{')
	for i, label := range t.Labels {
		w.between(i, ", ")
		w.WriteString(label)
		w.WriteString(": ")
		w.closed(&t.Kids[i])
	}
	w.WriteByte('}')
}

func (w *walker) sum(t *api.TT) {
	w.WriteByte('[')
	for i := range t.Kids {
		w.between(i, " | ")
		w.closed(&t.Kids[i])
	}
	w.WriteByte(']')
}

// between: writes what stands between the parts of a list, ahead of each but the first.
func (w *walker) between(i int, sign string) {
	if i > 0 {
		w.WriteString(sign)
	}
}

func (w *walker) binder(word string, t *api.TT) {
	outer := w.into(t)
	w.WriteString(word)
	w.WriteByte(' ')
	w.numbered('t', outer.numbers)
	w.WriteString(". ")
	w.text(&t.Kids[0])
	w.back(outer)
}
