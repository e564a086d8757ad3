package target

import "wafer/api"

// maxNested: how deep the deepest node may stand.
const maxNested = 100000

// deepType: is a node nested too deep in a type that stands so deep itself?
func deepType(t *api.TT, depth int) bool {
	return depth > maxNested || deepTypes(t.Kids, depth+1)
}

func deepTypes(l []api.TT, depth int) bool {
	for i := range l {
		if deepType(&l[i], depth) {
			return true
		}
	}
	return false
}

// deepTerm: the same of a term; the types in it are nested in it as its Kids are.
func deepTerm(m *api.TM, depth int) bool {
	if depth > maxNested || deepTypes(m.Types, depth+1) {
		return true
	}
	for i := range m.Kids {
		if deepTerm(&m.Kids[i], depth+1) {
			return true
		}
	}
	return false
}

// typeShape: what a type has in its own fields.
type typeShape struct{ n, labels, kids int }

// nearType: of the shapes that a type's kind allows the one that comes nearest to its own; false, if there is no such kind.
func nearType(kind int, own typeShape) (typeShape, bool) {
	switch kind {
	case api.GInt, api.GBool, api.GUnit:
		return typeShape{}, true
	case api.GFn, api.GPair:
		return typeShape{kids: 2}, true
	case api.GVar:
		return typeShape{n: own.n}, true
	case api.GRec:
		return typeShape{labels: own.kids, kids: own.kids}, true
	case api.GSum:
		return typeShape{kids: own.kids}, true
	case api.GMu, api.GAll, api.GEx:
		return typeShape{n: own.n, kids: 1}, true
	}
	return typeShape{}, false
}

func rightType(t *api.TT) bool {
	own := typeShape{t.N, len(t.Labels), len(t.Kids)}
	near, ok := nearType(t.Kind, own)
	// Only a GRec has Labels here, so they are always asked for their order.
	return ok && own == near && rising(t.Labels) && rightTypes(t.Kids)
}

func rightTypes(l []api.TT) bool {
	for i := range l {
		if !rightType(&l[i]) {
			return false
		}
	}
	return true
}

// termShape: what a term has in its own fields.
type termShape struct {
	n                   int
	num                 int64
	name                string
	labels, types, kids int
}

// nearTerm: of the shapes that a term's kind allows the one that comes nearest to its own; false, if there is no such kind.
func nearTerm(kind int, own termShape) (termShape, bool) {
	switch kind {
	case api.XInt:
		return termShape{num: own.num}, true
	case api.XBool:
		return termShape{num: own.num & 1}, true
	case api.XUnit:
		return termShape{}, true
	case api.XVar:
		return termShape{name: own.name}, true
	case api.XApp, api.XPair:
		return termShape{kids: 2}, true
	case api.XFst, api.XSnd, api.XUnfold, api.XTick:
		return termShape{kids: 1}, true
	case api.XIf:
		return termShape{kids: 3}, true
	case api.XBin:
		return termShape{n: min(max(own.n, api.OAdd), api.OLt), kids: 2}, true
	case api.XRec:
		return termShape{labels: own.kids, kids: own.kids}, true
	case api.XSel:
		return termShape{name: own.name, kids: 1}, true
	case api.XInj:
		return termShape{n: max(own.n, 0), types: 1, kids: 1}, true
	case api.XFold, api.XInst:
		return termShape{types: 1, kids: 1}, true
	case api.XPack:
		return termShape{types: 2, kids: 1}, true
	case api.XFail:
		return termShape{types: 1}, true
	}
	return nearBinder(kind, own)
}

// nearBinder: the same of the kinds that bind something.
func nearBinder(kind int, own termShape) (termShape, bool) {
	switch kind {
	case api.XLam:
		return termShape{name: own.name, types: 1, kids: 1}, true
	case api.XFix:
		return termShape{name: own.name, labels: 1, types: 2, kids: 1}, true
	case api.XLet:
		return termShape{name: own.name, kids: 2}, true
	case api.XCase:
		// Without Kids no number of Labels is right.
		return termShape{labels: own.kids - 1, kids: own.kids}, true
	case api.XAll:
		return termShape{n: own.n, kids: 1}, true
	case api.XOpen:
		return termShape{n: own.n, name: own.name, kids: 2}, true
	}
	return termShape{}, false
}

func rightTerm(m *api.TM) bool {
	own := termShape{m.N, m.Int, m.Name, len(m.Labels), len(m.Types), len(m.Kids)}
	near, ok := nearTerm(m.Kind, own)
	if !ok || own != near || m.Kind == api.XRec && !rising(m.Labels) || !rightTypes(m.Types) {
		return false
	}
	for i := range m.Kids {
		if !rightTerm(&m.Kids[i]) {
			return false
		}
	}
	return true
}

// rising: are the texts in order, each once?
func rising(l []string) bool {
	for i := 1; i < len(l); i++ {
		if l[i-1] >= l[i] {
			return false
		}
	}
	return true
}
