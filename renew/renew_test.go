package renew_test

import (
	"reflect"
	"testing"

	"wafer/api"
	"wafer/renew"
)

// TestAll: what is renewed is the same, and nothing that is written into it is seen in what it was.
func TestAll(t *testing.T) {
	leaf := api.TT{Kind: api.GRec, Labels: []string{"a"}, Kids: []api.TT{{Kind: api.GInt}}}
	one := api.TM{Kind: api.XLam, Name: "x", Labels: []string{"l"}, Types: []api.TT{leaf}, Kids: []api.TM{{Kind: api.XVar, Name: "x", Types: []api.TT{leaf}}}}
	other := one
	renew.Term(&other)
	if !reflect.DeepEqual(one, other) {
		t.Errorf("%+v, want %+v", other, one)
	}
	other.Labels[0], other.Types[0].Labels[0], other.Types[0].Kids[0].Kind, other.Kids[0].Name, other.Kids[0].Types[0].Kids[0].N = "z", "z", 9, "z", 9
	if one.Labels[0] != "l" || leaf.Labels[0] != "a" || leaf.Kids[0].Kind != api.GInt || leaf.Kids[0].N != 0 || one.Kids[0].Name != "x" {
		t.Errorf("what was written is seen: %+v", one)
	}
	x := api.Type{Kind: api.TPair, Kids: []api.Type{{Kind: api.TPair, Kids: []api.Type{{Kind: api.TInt}, {}}}, {}}}
	y := x
	renew.Type(&y)
	y.Kids[0].Kids[0].Kind, y.Kids[1].Kind = 9, 9
	if x.Kids[0].Kids[0].Kind != api.TInt || x.Kids[1].Kind != 0 {
		t.Errorf("what was written is seen: %+v", x)
	}
	v := api.Value{Kids: []api.Value{{N: 1, Kids: []api.Value{{N: 2}}}}}
	w := v
	renew.Value(&w)
	w.Kids[0].N, w.Kids[0].Kids[0].N = 9, 9
	if v.Kids[0].N != 1 || v.Kids[0].Kids[0].N != 2 {
		t.Errorf("what was written is seen: %+v", v)
	}
}
