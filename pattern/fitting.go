package pattern

import "wafer/api"

// fitter: one call of Fits, and what was bound so far.
type fitter struct {
	names []string
	parts []api.Value
}

// fit: does a pattern, right or not, fit a value?
func (f *fitter) fit(p *api.Pat, v *api.Value) bool {
	switch p.Kind {
	case api.PPair:
		return v.Kind == api.VPair && len(p.Kids) == 2 && f.all(p.Kids, v.Kids)
	case api.PCon:
		return v.Kind == api.VCon && isLast(v.Name, p.Path) && len(p.Kids) < 2 && f.all(p.Kids, v.Kids)
	}
	return len(p.Kids) == 0 && f.alone(p, v)
}

// all: as many patterns as values, of which each fits?
func (f *fitter) all(l []api.Pat, values []api.Value) bool {
	if len(l) != len(values) {
		return false
	}
	for i := range l {
		if !f.fit(&l[i], &values[i]) {
			return false
		}
	}
	return true
}

// alone: does a pattern of a kind without Kids fit?
func (f *fitter) alone(p *api.Pat, v *api.Value) bool {
	switch p.Kind {
	case api.PAny:
		return true
	case api.PVar:
		f.names = append(f.names, p.Name)
		f.parts = append(f.parts, *v)
		return true
	case api.PInt:
		return v.Kind == api.VInt && v.N == p.N
	case api.PTrue:
		return v.Kind == api.VBool && v.N == 1
	case api.PFalse:
		return v.Kind == api.VBool && v.N == 0
	case api.PUnit:
		return v.Kind == api.VUnit
	}
	return false
}

// isLast: is it the last name of a path?
func isLast(name string, path []string) bool {
	return len(path) > 0 && path[len(path)-1] == name
}
