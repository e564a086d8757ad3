package renew_test

import (
	"reflect"
	"testing"

	"wafer/api"
	"wafer/renew"
)

// TestAll: what is renewed is the same, and nothing that is written into it is seen in what it was.
func TestAll(t *testing.T) {
	leaf := api.TT{Kind: api.GRec, Labels: []string{"a"}, Kids: []api.TT{{Kind: api.GInt}}}
	one := api.TM{Kind: api.XLam, Name: "x", Labels: []string{"l"}, Types: []api.TT{leaf}, Kids: []api.TM{{Kind: api.XVar, Name: "x", Types: []api.TT{leaf}}}}
	other := one
	renew.Term(&other)
	if !reflect.DeepEqual(one, other) {
		t.Errorf("%+v, want %+v", other, one)
	}
	other.Labels[0], other.Types[0].Labels[0], other.Types[0].Kids[0].Kind, other.Kids[0].Name, other.Kids[0].Types[0].Kids[0].N = "z", "z", 9, "z", 9
	if one.Labels[0] != "l" || leaf.Labels[0] != "a" || leaf.Kids[0].Kind != api.GInt || leaf.Kids[0].N != 0 || one.Kids[0].Name != "x" {
		t.Errorf("what was written is seen: %+v", one)
	}
	x := api.Type{Kind: api.TPair, Kids: []api.Type{{Kind: api.TPair, Kids: []api.Type{{Kind: api.TInt}, {}}}, {}}}
	y := x
	renew.Type(&y)
	y.Kids[0].Kids[0].Kind, y.Kids[1].Kind = 9, 9
	if x.Kids[0].Kids[0].Kind != api.TInt || x.Kids[1].Kind != 0 {
		t.Errorf("what was written is seen: %+v", x)
	}
	v := api.Value{Kids: []api.Value{{N: 1, Kids: []api.Value{{N: 2}}}}}
	w := v
	renew.Value(&w)
	w.Kids[0].N, w.Kids[0].Kids[0].N = 9, 9
	if v.Kids[0].N != 1 || v.Kids[0].Kids[0].N != 2 {
		t.Errorf("what was written is seen: %+v", v)
	}
}

// TestShared: what was one list is one new list, each by itself, whatever part of another one it is; nothing that is written into it is seen in what it was.
func TestShared(t *testing.T) {
	leaf := api.TT{Kind: api.GRec, Labels: []string{"a"}, Kids: []api.TT{{Kind: api.GInt}}}
	kids := []api.TM{{Kind: api.XVar, Name: "x", Labels: []string{"l"}, Types: []api.TT{leaf, leaf}}, {Kind: api.XUnit}, {Kind: api.XInt, Int: 5}}
	one := api.TM{Kind: api.XPair, Labels: []string{"m"}, Types: []api.TT{leaf}, Kids: []api.TM{{Kids: kids}, {Kids: kids[:2]}, {Kids: kids[1:]}, {Kids: kids}, {Kids: kids[:0]}}}
	other := one
	renew.Shared(&other)
	if !reflect.DeepEqual(one.Kids[:4], other.Kids[:4]) || !reflect.DeepEqual(one.Types, other.Types) || !reflect.DeepEqual(one.Labels, other.Labels) || len(other.Kids) != 5 || len(other.Kids[4].Kids) != 0 {
		t.Errorf("%+v, want %+v", other, one)
	}
	if &other.Kids[0].Kids[0] != &other.Kids[3].Kids[0] || &other.Kids[0].Kids[0].Types[0].Kids[0] != &other.Types[0].Kids[0] {
		t.Error("what was one list is two")
	}
	other.Labels[0], other.Types[0].Labels[0], other.Types[0].Kids[0].Kind, other.Types[0].N = "z", "z", 9, 9
	x := &other.Kids[0].Kids[0]
	x.Labels[0], x.Types[1].Labels[0], x.Types[1].N, x.Name, other.Kids[1].Kids[1].Kind = "z", "z", 9, "z", 9
	if one.Labels[0] != "m" || leaf.Labels[0] != "a" || leaf.Kids[0].Kind != api.GInt || one.Types[0].N != 0 || kids[0].Labels[0] != "l" || kids[0].Types[1].N != 0 || kids[0].Name != "x" || kids[1].Kind != api.XUnit {
		t.Errorf("what was written is seen: %+v", one)
	}
	// Very much, each part by itself.
	m, tt := api.TM{Kind: api.XUnit}, api.TT{Kind: api.GInt}
	for range 60 {
		tt = api.TT{Kind: api.GPair, Kids: []api.TT{tt, tt}}
		m = api.TM{Kind: api.XPair, Kids: []api.TM{m, m}, Types: []api.TT{tt, tt}}
	}
	renew.Shared(&m)
	if len(m.Kids) != 2 {
		t.Error("it is another one")
	}
}
