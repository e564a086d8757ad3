package print_test

import (
	"fmt"
	"math/rand"
	"reflect"
	"strings"
	"testing"

	"wafer/api"
)

// clone: the same value in new memory, each list with spare room behind it, in which something stands.
func clone(v reflect.Value) reflect.Value {
	out := reflect.New(v.Type()).Elem()
	switch v.Kind() {
	case reflect.Struct:
		for i := range v.NumField() {
			out.Field(i).Set(clone(v.Field(i)))
		}
	case reflect.Slice:
		list := reflect.MakeSlice(v.Type(), 0, v.Len()+2)
		for i := range v.Len() {
			list = reflect.Append(list, clone(v.Index(i)))
		}
		for range 2 {
			list = reflect.Append(list, spare(v.Type().Elem()))
		}
		out.Set(list.Slice(0, v.Len()))
	default:
		out.Set(v)
	}
	return out
}

// spare: something that is no right node and no name.
func spare(t reflect.Type) reflect.Value {
	v := reflect.New(t).Elem()
	if t.Kind() == reflect.String {
		v.SetString("spare")
	} else if f := v.FieldByName("Name"); f.IsValid() {
		f.SetString("spare")
	} else {
		v.FieldByName("Kind").SetInt(77)
	}
	return v
}

// dump: all that stands in a value, in the spare room of its lists too, if that is asked for; without places, if they are not asked for.
func dump(b *strings.Builder, v reflect.Value, room, places bool) {
	switch v.Kind() {
	case reflect.Struct:
		b.WriteString("{")
		for i := range v.NumField() {
			if v.Type().Field(i).Name != "At" || places {
				dump(b, v.Field(i), room, places)
			}
		}
		b.WriteString("}")
	case reflect.Slice:
		if room {
			v = v.Slice(0, v.Cap())
		}
		b.WriteString("[")
		for i := range v.Len() {
			dump(b, v.Index(i), room, places)
		}
		b.WriteString("]")
	default:
		fmt.Fprintf(b, "%q,", fmt.Sprint(v.Interface()))
	}
}

func dumped(node any, room, places bool) string {
	var b strings.Builder
	dump(&b, reflect.ValueOf(node), room, places)
	return b.String()
}

// TestHandedIn: what is handed in is as it was behind the call, the spare room of its lists too, whether it has a text or not.
func TestHandedIn(t *testing.T) {
	r := rand.New(rand.NewSource(4))
	l := pairs()
	for _, sort := range []string{"ty", "pat", "exp", "dec", "mod", "sig", "spec"} {
		for range 100 {
			l = append(l, grow(r, sort, 5))
		}
	}
	nodes := longs(api.MaxText + 1)
	nodes = append(nodes, deep(api.MaxDepth+1)...)
	for _, s := range l {
		nodes = append(nodes, s.node)
		if d, ok := s.node.(api.Dec); ok {
			nodes = append(nodes, []api.Dec{d, {}}, []api.Dec{d, d})
		}
	}
	for _, node := range nodes {
		node = clone(reflect.ValueOf(node)).Interface()
		before := dumped(node, true, true)
		s, e := text(node)
		if dumped(node, true, true) != before {
			t.Errorf("%T %q is not as it was", node, brief(s))
		}
		if again, e2 := text(node); again != s || e2 != e {
			t.Errorf("%T: %q, %v, and then %q, %v", node, brief(s), e, brief(again), e2)
		}
	}
}

// change: hands on a value in all the ways in which one field of it, anywhere within it, may be another one.
func change(v reflect.Value, name string, told func()) {
	put := func(to any) {
		was := reflect.New(v.Type()).Elem()
		was.Set(v)
		v.Set(reflect.ValueOf(to).Convert(v.Type()))
		told()
		v.Set(was)
	}
	switch v.Kind() {
	case reflect.Struct:
		for i := range v.NumField() {
			change(v.Field(i), v.Type().Field(i).Name, told)
		}
	case reflect.Slice:
		for i := range v.Len() {
			change(v.Index(i), name, told)
		}
		changeList(v, put)
	case reflect.String:
		for _, s := range []string{v.String() + "x", "X" + v.String(), "y", "B", "bool", "unit", "M", "", "if"} {
			put(s)
		}
	default:
		switch name {
		case "Kind", "Op":
			for k := range int64(api.EAnn + 2) {
				put(k)
			}
		case "N":
			put(v.Int() / 2)
			put(v.Int() - 1)
			put(v.Int() | 1<<40)
		case "At":
			put(v.Int() + 7)
			put(-1)
		}
	}
}

// changeList: a list without its first or last element, with one of them twice, turned round, or with one more.
func changeList(v reflect.Value, put func(any)) {
	n := v.Len()
	for _, order := range [][]int{{1, n}, {0, n - 1}} {
		if n > 0 {
			put(v.Slice(order[0], order[1]).Interface())
		}
	}
	if n == 0 {
		put(reflect.Append(v, spare(v.Type().Elem())).Interface())
		return
	}
	turned := reflect.MakeSlice(v.Type(), 0, n)
	for i := range n {
		turned = reflect.Append(turned, v.Index(n-1-i))
	}
	put(turned.Interface())
	put(reflect.AppendSlice(reflect.MakeSlice(v.Type(), 0, n+1), reflect.Append(v.Slice(0, n), v.Index(n-1))).Interface())
	put(reflect.AppendSlice(reflect.AppendSlice(reflect.MakeSlice(v.Type(), 0, n+1), v.Slice(0, 1)), v).Interface())
}

// texts: by sort and text the nodes that have it.
type texts map[string]string

// held: is the text of a node that of no unlike one? A node that is not right has tree's error instead.
func (l texts) held(t *testing.T, node any) bool {
	t.Helper()
	s, e := text(node)
	if want := right(node); e != want || e != api.OK && s != "" {
		t.Errorf("%+v: %q, %v, not %v", node, brief(s), e, want)
	}
	if e != api.OK {
		return false
	}
	key, plain := fmt.Sprintf("%T %s", node, s), dumped(node, false, false)
	if other, ok := l[key]; ok && other != plain {
		t.Errorf("%q is the text of %s and of %s", s, other, plain)
	}
	l[key] = plain
	return true
}

// TestP601Changed: nodes that differ in one field alone have unlike texts, but if it is At: then they have the same one. F6.1: those that are not right have tree's error, wherever it is in them.
func TestP601Changed(t *testing.T) {
	l, byNode := texts{}, map[string]string{}
	changed, wrong := 0, 0
	for _, s := range pairs() {
		v := reflect.New(reflect.TypeOf(s.node)).Elem()
		v.Set(clone(reflect.ValueOf(s.node)))
		change(v, "", func() {
			node := v.Interface()
			if !l.held(t, node) {
				wrong++
				return
			}
			changed++
			key := fmt.Sprintf("%T", node) + dumped(node, false, false)
			got, _ := text(node)
			if other, ok := byNode[key]; ok && other != got {
				t.Errorf("like nodes have the texts %q and %q", brief(other), brief(got))
			}
			byNode[key] = got
		})
	}
	if changed < 10000 || wrong < 10000 {
		t.Errorf("only %d nodes, and %d that are not right", changed, wrong)
	}
}

// TestP601Random: random nodes have one text each, wherever they stand.
func TestP601Random(t *testing.T) {
	r := rand.New(rand.NewSource(601))
	l := texts{}
	for i := range 20000 {
		sorts := []string{"ty", "pat", "exp", "dec", "mod", "sig", "spec", "con"}
		l.held(t, grow(r, sorts[i%len(sorts)], 1+r.Intn(4)).node)
	}
	if len(l) < 5000 {
		t.Errorf("only %d texts", len(l))
	}
}

// TestP601Units: lists of declarations that are unlike have unlike texts.
func TestP601Units(t *testing.T) {
	by := map[string]string{}
	var l []api.Dec
	for _, f := range formsOf("dec") {
		l = append(l, f.fill(atoms(f, 0)).node.(api.Dec), f.fill(atoms(f, 1)).node.(api.Dec))
	}
	for i := range l {
		for _, unit := range [][]api.Dec{{l[i]}, {l[i], l[i]}, {l[i], l[0]}, {l[0], l[i]}, l[:i], l[i:]} {
			s, e := text(unit)
			plain := dumped(unit, false, false)
			if other, ok := by[s]; e != api.OK || ok && other != plain {
				t.Errorf("%q, %v, is the text of %s and of %s", s, e, other, plain)
			}
			by[s] = plain
			for j := range unit {
				unit = append([]api.Dec(nil), unit...)
				unit[j].At = 9
			}
			if again, _ := text(unit); again != s {
				t.Errorf("with other places: %q, not %q", again, s)
			}
		}
	}
}
