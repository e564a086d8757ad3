package modules

import (
	"strconv"

	"wafer/api"
	"wafer/env"
)

// maxNext: the greatest number from which new stamps may be asked for.
const maxNext = 1 << 30

// counts: ErrArg, if new stamps may not be counted from there on.
func counts(next int) api.Errno {
	if next < 0 || next > maxNext {
		return api.ErrArg
	}
	return api.OK
}

// builder: one call of Decs or Mod.
type builder struct {
	rules [kinds]rule
	taken map[string]struct{} // the names that stand free in the terms of the environment that was handed in
	last  int                 // how many names were made
	moved []layer             // what is bound around all that is made
}

// newBuilder: a builder for an environment, which comes to be plain, as core asks, in lists of its own.
func newBuilder(e *env.Env) *builder {
	b := &builder{rules: rulesByKind(), taken: map[string]struct{}{}}
	b.shelter(e)
	return b
}

// name: a new one, which nothing else binds: core binds names of the language, and such as begin with a mark.
func (b *builder) name(of string) string {
	for {
		b.last++
		name := of + " " + strconv.Itoa(b.last)
		if _, taken := b.taken[name]; !taken {
			return name
		}
	}
}

// whole: what the call makes, where the names of the environment stand that was handed in.
func (b *builder) whole(m Made) Made {
	m.X = laid(m.X, b.moved)
	return m
}
