package scheme

import (
	"wafer/api"
	"wafer/types"
)

// pair: two types, of which the first is to become the second.
type pair struct{ from, to *api.Type }

// matched: the parts of b that stand where a has its TGen 0, 1, .. , and whether a becomes b with them; both are right.
func matched(a, b api.Scheme) ([]*api.Type, bool) {
	found := make([]*api.Type, a.Gens)
	wait := []pair{{&a.T, &b.T}}
pairs:
	for len(wait) > 0 {
		last := len(wait) - 1
		from, to := wait[last].from, wait[last].to
		switch {
		case from.Kind != api.TGen:
			// All that a scheme doesn't leave open is the same as itself alone: metas and stamps, too.
			if from.Kind != to.Kind || from.N != to.N {
				break pairs
			}
			wait = withKids(wait[:last], from, to)
		case found[from.N] == nil:
			found[from.N] = to
			wait = wait[:last]
		case types.Same(*found[from.N], *to):
			wait = wait[:last]
		default:
			break pairs
		}
	}
	// A pair goes from the list only when it is met: what still waits is what could not be.
	return found, len(wait) == 0
}

// withKids: the pairs that wait, and those of the Kids of two right types of one kind, which are equally many.
func withKids(wait []pair, from, to *api.Type) []pair {
	for i := range from.Kids {
		wait = append(wait, pair{&from.Kids[i], &to.Kids[i]})
	}
	return wait
}
