package parsemod

import (
	"wafer/api"
	"wafer/parsecore"
)

// reader: a reader of tokens with the rules of modules. Once it has failed no word stands next, so that every rule comes to its end; what it has read by then is not told.
type reader struct {
	*parsecore.Reader
	decKinds  map[string]func(*reader) api.Dec
	specKinds map[string]func(*reader) api.Spec
}

func read(s string) (*reader, int, api.Errno) {
	r, at, e := parsecore.Read(s)
	if e != api.OK {
		return nil, at, e
	}
	return &reader{r, decKinds(), specKinds()}, 0, api.OK
}

// decKinds: how declarations are read, by the words that they begin with.
func decKinds() map[string]func(*reader) api.Dec {
	return map[string]func(*reader) api.Dec{
		"val":       (*reader).Dec,
		"fun":       (*reader).Dec,
		"type":      (*reader).typeDec,
		"data":      (*reader).dataDec,
		"structure": (*reader).structureDec,
		"signature": (*reader).signatureDec,
		"functor":   (*reader).functorDec,
	}
}

// specKinds: how specifications are read, by the words that they begin with.
func specKinds() map[string]func(*reader) api.Spec {
	return map[string]func(*reader) api.Spec{
		"val":       (*reader).valSpec,
		"type":      (*reader).typeSpec,
		"data":      (*reader).dataSpec,
		"structure": (*reader).structureSpec,
	}
}

// next: the node that begins with the word that stands next; false, and nothing is taken, if none does.
func next[N any](r *reader, kinds map[string]func(*reader) N) (node N, ok bool) {
	t, _ := r.Next()
	rule, ok := kinds[t.Text]
	if !ok {
		return node, false
	}
	return rule(r), true
}

// several: the nodes that stand next, as many as there are.
func several[N any](r *reader, kinds map[string]func(*reader) N) []N {
	var l []N
	for {
		node, ok := next(r, kinds)
		if !ok {
			return l
		}
		l = append(l, node)
	}
}

func (r *reader) decs() []api.Dec { return several(r, r.decKinds) }

func (r *reader) dec() api.Dec {
	d, ok := next(r, r.decKinds)
	if !ok {
		r.Fail(api.ErrSyntax)
	}
	return d
}

// begin: takes the word that a declaration or a specification begins with, and tells its place.
func (r *reader) begin(word string) int {
	t, _ := r.Next()
	r.Need(word)
	return t.At
}

func (r *reader) typeDec() api.Dec {
	d := api.Dec{Kind: api.DType, At: r.begin("type"), Name: r.Lower()}
	r.Need("=")
	d.Tys = []api.Ty{r.Ty()}
	return d
}

func (r *reader) dataDec() api.Dec {
	d := api.Dec{Kind: api.DData, At: r.begin("data"), Name: r.Lower()}
	r.Need("=")
	d.Cons = r.cons()
	return d
}

func (r *reader) structureDec() api.Dec {
	d := api.Dec{Kind: api.DStr, At: r.begin("structure"), Name: r.Upper()}
	d.Mods = []api.Mod{r.body()}
	return d
}

func (r *reader) signatureDec() api.Dec {
	d := api.Dec{Kind: api.DSig, At: r.begin("signature"), Name: r.Upper()}
	r.Need("=")
	d.Sigs = []api.Sig{r.sig()}
	return d
}

func (r *reader) functorDec() api.Dec {
	d := api.Dec{Kind: api.DFunctor, At: r.begin("functor"), Name: r.Upper()}
	r.Need("(")
	d.Params = []string{r.Upper()}
	r.Need(":")
	d.Sigs = []api.Sig{r.sig()}
	r.Need(")")
	d.Mods = []api.Mod{r.body()}
	return d
}

// cons: the constructors of a datatype, one or more.
func (r *reader) cons() []api.Con {
	r.Take("|")
	l := []api.Con{r.con()}
	for r.Take("|") {
		l = append(l, r.con())
	}
	return l
}

func (r *reader) con() api.Con {
	c := api.Con{Name: r.Upper()}
	if r.Take("of") {
		c.Tys = []api.Ty{r.Ty()}
	}
	return c
}

// body: what stands behind the head of a structure or a functor. A seal ahead of the `=` comes around the whole that stands behind it, seals of its own too.
func (r *reader) body() api.Mod {
	around, sealed := r.seal()
	r.Need("=")
	m := r.mod()
	if sealed {
		return around(m)
	}
	return m
}

// seal: what the seal that stands next lays around a structure expression; false, and nothing is taken, if there is none.
func (r *reader) seal() (func(api.Mod) api.Mod, bool) {
	kind := 0
	switch {
	case r.Take(":"):
		kind = api.MAsc
	case r.Take(":>"):
		kind = api.MSeal
	default:
		return nil, false
	}
	s := r.sig()
	return func(m api.Mod) api.Mod {
		return api.Mod{Kind: kind, Mods: []api.Mod{m}, Sigs: []api.Sig{s}}
	}, true
}

// mod: a structure expression; of several seals the first one binds first.
func (r *reader) mod() api.Mod {
	m := r.atomMod()
	for {
		around, sealed := r.seal()
		if !sealed {
			return m
		}
		m = around(m)
	}
}

func (r *reader) atomMod() api.Mod {
	switch {
	case r.Take("struct"):
		m := api.Mod{Kind: api.MStruct, Decs: r.decs()}
		r.Need("end")
		return m
	case r.Take("let"):
		m := api.Mod{Kind: api.MLet, Decs: r.decs()}
		r.Need("in")
		m.Mods = []api.Mod{r.mod()}
		r.Need("end")
		return m
	case r.Take("("):
		return r.restMod()
	}
	path := r.Path(false)
	if r.Take("(") {
		return api.Mod{Kind: api.MApp, Path: path, Mods: []api.Mod{r.restMod()}}
	}
	return api.Mod{Kind: api.MPath, Path: path}
}

// restMod: the structure expression that stands behind an open parenthesis, up to the one that closes it.
func (r *reader) restMod() api.Mod {
	m := r.mod()
	r.Need(")")
	return m
}

// sig: a signature expression; of several `where type` the first one binds first.
func (r *reader) sig() api.Sig {
	s := r.atomSig()
	for r.Take("where") {
		r.Need("type")
		path := r.Path(true)
		r.Need("=")
		s = api.Sig{Kind: api.SWhere, Path: path, Sigs: []api.Sig{s}, Tys: []api.Ty{r.Ty()}}
	}
	return s
}

func (r *reader) atomSig() api.Sig {
	if !r.Take("sig") {
		return api.Sig{Kind: api.SPath, Path: r.Path(false)}
	}
	s := api.Sig{Kind: api.SSig, Specs: several(r, r.specKinds)}
	r.Need("end")
	return s
}

func (r *reader) valSpec() api.Spec {
	c := api.Spec{Kind: api.CVal, At: r.begin("val"), Name: r.Lower()}
	r.Need(":")
	c.Tys = []api.Ty{r.Ty()}
	return c
}

func (r *reader) typeSpec() api.Spec {
	c := api.Spec{Kind: api.CType, At: r.begin("type"), Name: r.Lower()}
	if r.Take("=") {
		c.Tys = []api.Ty{r.Ty()}
	}
	return c
}

func (r *reader) dataSpec() api.Spec {
	c := api.Spec{Kind: api.CData, At: r.begin("data"), Name: r.Lower()}
	r.Need("=")
	c.Cons = r.cons()
	return c
}

func (r *reader) structureSpec() api.Spec {
	c := api.Spec{Kind: api.CStr, At: r.begin("structure"), Name: r.Upper()}
	r.Need(":")
	c.Sigs = []api.Sig{r.sig()}
	return c
}
