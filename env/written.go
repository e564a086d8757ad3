package env

import "wafer/api"

// reader: what types that are written mean in an environment.
type reader struct {
	env     *Env
	vars    map[string]int // the TGen of each type variable
	unbound bool           // was a path not there?
}

// means: what a right type means, with lists that it shares with the environment.
func (r *reader) means(t *api.Ty) api.Type {
	switch t.Kind {
	case api.YVar:
		return api.Type{Kind: api.TGen, N: r.variable(t.Name)}
	case api.YFn:
		return r.both(api.TFn, t.Kids)
	case api.YPair:
		return r.both(api.TPair, t.Kids)
	}
	return r.named(t.Path)
}

func (r *reader) variable(name string) int {
	n, ok := r.vars[name]
	if !ok {
		n = len(r.vars)
		r.vars[name] = n
	}
	return n
}

func (r *reader) both(kind int, kids []api.Ty) api.Type {
	left := r.means(&kids[0])
	return api.Type{Kind: kind, Kids: []api.Type{left, r.means(&kids[1])}}
}

func (r *reader) named(path []string) api.Type {
	// A longer path begins with a high name, so that none of these words is its first one.
	switch path[0] {
	case "int":
		return api.Type{Kind: api.TInt}
	case "bool":
		return api.Type{Kind: api.TBool}
	case "unit":
		return api.Type{Kind: api.TUnit}
	}
	found, ok := find(r.env, path, typs(r.env))
	if !ok {
		r.unbound = true
	}
	return found.T
}
