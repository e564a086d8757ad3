package target

import (
	"strconv"

	"wafer/api"
)

// showTerm: writes a term as Show tells it. The text could be read back, up to what is bound, whatever the data: each node is a word for its kind and, in one order and behind a sign of its own each, those of its fields that are not zero. Nothing is written of what binds, and of what is bound only the place of its binder.
func (w *walker) showTerm(m *api.TM) {
	w.WriteString(termWord(m.Kind))
	if m.N != 0 && !hidesNumber(m) {
		w.numbered('#', m.N)
	}
	if m.Int != 0 {
		w.WriteByte('=')
		w.WriteString(strconv.FormatInt(m.Int, 10))
	}
	w.showName(m)
	w.showLabels(len(m.Labels), func(i int) string {
		if hidesLabel(m, i) {
			return "_"
		}
		return strconv.Quote(m.Labels[i])
	})
	w.showList('<', len(m.Types), '>', func(i int) { w.showType(&m.Types[i]) })
	w.showList('(', len(m.Kids), ')', func(i int) {
		outer := w.intoKid(m, i)
		w.showTerm(&m.Kids[i])
		w.back(outer)
	})
}

func (w *walker) showName(m *api.TM) {
	at, bound := w.names.find(m.Name)
	switch {
	case hidesName(m):
	case m.Kind == api.XVar && bound:
		w.numbered('@', at)
	case m.Kind == api.XVar || m.Name != "":
		w.WriteString(strconv.Quote(m.Name))
	}
}

// showType: writes a type within a term; its labels are quoted, so that no sign in them can be taken for one of Show's.
func (w *walker) showType(t *api.TT) {
	w.WriteString(typeWord(t.Kind))
	w.showNumber(t)
	w.showLabels(len(t.Labels), func(i int) string { return strconv.Quote(t.Labels[i]) })
	outer := w.into(t)
	w.showList('(', len(t.Kids), ')', func(i int) { w.showType(&t.Kids[i]) })
	w.back(outer)
}

func (w *walker) showNumber(t *api.TT) {
	at, bound := w.numbers.find(t.N)
	switch {
	case binds(t):
	case t.Kind == api.GVar && bound:
		w.numbered('@', at)
	case t.Kind == api.GVar || t.N != 0:
		w.numbered('#', t.N)
	}
}

func (w *walker) showLabels(n int, text func(int) string) {
	w.showList('[', n, ']', func(i int) { w.WriteString(text(i)) })
}

// showList: writes a list between two signs, nothing of an empty one.
func (w *walker) showList(from byte, n int, to byte, show func(int)) {
	if n == 0 {
		return
	}
	w.WriteByte(from)
	for i := range n {
		w.between(i, ", ")
		show(i)
	}
	w.WriteByte(to)
}

// typeWord: the word for a kind of types.
func typeWord(kind int) string {
	words := [...]string{
		api.GInt: "int", api.GBool: "bool", api.GUnit: "unit", api.GFn: "fn", api.GPair: "pair", api.GVar: "var",
		api.GRec: "rec", api.GSum: "sum", api.GMu: "mu", api.GAll: "all", api.GEx: "some",
	}
	return word(words[:], kind)
}

// termWord: the word for a kind of terms.
func termWord(kind int) string {
	words := [...]string{
		api.XInt: "int", api.XBool: "bool", api.XUnit: "unit", api.XVar: "var", api.XLam: "lam", api.XApp: "app",
		api.XFix: "fix", api.XLet: "let", api.XPair: "pair", api.XFst: "fst", api.XSnd: "snd", api.XIf: "if",
		api.XBin: "bin", api.XRec: "rec", api.XSel: "sel", api.XInj: "inj", api.XCase: "case", api.XFold: "fold",
		api.XUnfold: "unfold", api.XAll: "all", api.XInst: "inst", api.XPack: "pack", api.XOpen: "open",
		api.XFail: "fail", api.XTick: "tick",
	}
	return word(words[:], kind)
}

// word: that of a kind, a word with its number of one that is none.
func word(words []string, kind int) string {
	if kind < 1 || kind >= len(words) {
		return "kind" + strconv.Itoa(kind)
	}
	return words[kind]
}
