package match_test

import (
	"fmt"
	"math"
	"reflect"
	"strconv"
	"strings"
	"testing"

	"wafer/api"
	"wafer/env"
	"wafer/types"
)

// Types.
func node(kind, n int, kids ...api.Type) api.Type { return api.Type{Kind: kind, N: n, Kids: kids} }

func integer() api.Type { return node(api.TInt, 0) }

func boolean() api.Type { return node(api.TBool, 0) }

func unit() api.Type { return node(api.TUnit, 0) }

func stamp(n int) api.Type { return node(api.TStamp, n) }

func gen(n int) api.Type { return node(api.TGen, n) }

func fn(a, b api.Type) api.Type { return node(api.TFn, 0, a, b) }

func pair(a, b api.Type) api.Type { return node(api.TPair, 0, a, b) }

// wide: a type of pairs with so many leaves, which has one node less than twice as many.
func wide(leaves int, leaf api.Type) api.Type {
	if leaves == 1 {
		return leaf
	}
	return pair(wide(leaves/2, leaf), wide(leaves-leaves/2, leaf))
}

// Structures.
func ctor(name string, args ...api.Type) api.Ctor { return api.Ctor{Name: name, Args: args} }

func typ(name string, t api.Type, ctors ...api.Ctor) api.TyMember {
	return api.TyMember{Name: name, T: t, Ctors: ctors}
}

func val(name string, t api.Type) api.ValMember { return poly(name, 0, t) }

func poly(name string, gens int, t api.Type) api.ValMember {
	return api.ValMember{Name: name, S: api.Scheme{Gens: gens, T: t}}
}

func sub(name string, members ...any) api.SubMember {
	return api.SubMember{Name: name, S: str(members...)}
}

func functor(name string, stamps []int, arg api.Str, res api.Abs) api.FunMember {
	return api.FunMember{Name: name, F: api.Fun{Stamps: stamps, Arg: arg, Res: res}}
}

func sig(name string, stamps []int, members ...any) api.SigMember {
	return api.SigMember{Name: name, A: abs(stamps, members...)}
}

// str: a structure of such members, each list as they stand.
func str(members ...any) api.Str {
	var s api.Str
	for _, m := range members {
		switch m := m.(type) {
		case api.TyMember:
			s.Types = append(s.Types, m)
		case api.ValMember:
			s.Vals = append(s.Vals, m)
		case api.SubMember:
			s.Subs = append(s.Subs, m)
		case api.FunMember:
			s.Funs = append(s.Funs, m)
		case api.SigMember:
			s.Sigs = append(s.Sigs, m)
		default:
			panic("no member")
		}
	}
	return s
}

func abs(stamps []int, members ...any) api.Abs { return api.Abs{Stamps: stamps, S: str(members...)} }

func ints(l ...int) []int { return l }

func list(l ...api.Type) []api.Type { return l }

func variable(name string) api.TM { return api.TM{Kind: api.XVar, Name: name} }

// edges: numbers at the ends of what may come.
func edges() []int {
	return []int{math.MinInt, math.MinInt32, -2, -1, 0, 1, math.MaxInt32, math.MaxInt32 + 1, math.MaxInt - 1, math.MaxInt}
}

// texts: types in one line.
func texts(l []api.Type) string {
	var out []string
	for _, t := range l {
		out = append(out, types.Text(t))
	}
	return strings.Join(out, ", ")
}

// show: a structure in one line; of functors and signatures all that they have.
func show(s api.Str) string {
	var l []string
	for _, m := range s.Types {
		one := "type " + m.Name + " = " + types.Text(m.T)
		between := ": "
		for _, c := range m.Ctors {
			one += between + c.Name
			between = " | "
			for _, t := range c.Args {
				one += " of " + types.Text(t)
			}
		}
		l = append(l, one)
	}
	for _, m := range s.Vals {
		one := "val " + m.Name + " " + types.SchemeText(m.S)
		if m.S.Gens > 0 {
			one += fmt.Sprint(" /", m.S.Gens)
		}
		l = append(l, one)
	}
	for _, m := range s.Subs {
		l = append(l, "structure "+m.Name+" ("+show(m.S)+")")
	}
	for _, m := range s.Funs {
		l = append(l, "functor "+m.Name+fmt.Sprint(" ", m.F.Stamps, " (")+show(m.F.Arg)+") -> ("+showAbs(m.F.Res)+")")
	}
	for _, m := range s.Sigs {
		l = append(l, "signature "+m.Name+" ("+showAbs(m.A)+")")
	}
	return strings.Join(l, ", ")
}

func showAbs(a api.Abs) string { return strings.TrimSpace(fmt.Sprint(a.Stamps) + " " + show(a.S)) }

// tell: all that plain data has; a list that is nil is told like an empty one.
func tell(x any) string {
	var b strings.Builder
	tellIn(&b, reflect.ValueOf(x), false)
	return b.String()
}

// tellRoom: the same, with what stands in the spare room of lists.
func tellRoom(x any) string {
	var b strings.Builder
	tellIn(&b, reflect.ValueOf(x), true)
	return b.String()
}

func tellIn(b *strings.Builder, v reflect.Value, room bool) {
	switch v.Kind() {
	case reflect.Int, reflect.Int64:
		b.WriteString(strconv.FormatInt(v.Int(), 10))
	case reflect.String:
		b.WriteString(strconv.Quote(v.String()))
	case reflect.Struct:
		b.WriteString("{")
		for i := range v.NumField() {
			tellIn(b, v.Field(i), room)
			b.WriteString(" ")
		}
		b.WriteString("}")
	case reflect.Slice:
		all := v
		b.WriteString("[" + strconv.Itoa(v.Len()) + ":")
		if room {
			all = v.Slice(0, v.Cap())
		}
		for i := range all.Len() {
			tellIn(b, all.Index(i), room)
			b.WriteString(" ")
		}
		b.WriteString("]")
	default:
		panic("no plain data")
	}
}

// brief: a text that is not too long to be told.
func brief(s string) string {
	if len(s) > 900 {
		return s[:900] + " .."
	}
	return s
}

// code: an error's short name.
func code(err api.Errno) string {
	switch err {
	case api.OK:
		return "OK"
	case api.ErrArg:
		return "ErrArg"
	case api.ErrBig:
		return "ErrBig"
	case api.ErrMatch:
		return "ErrMatch"
	}
	return err.Error()
}

// same: two answers are alike.
func same(t *testing.T, what string, got, want any) {
	t.Helper()
	if g, w := tell(got), tell(want); g != w {
		t.Fatalf("%s:\n%s, want\n%s", brief(what), brief(g), brief(w))
	}
}

// wantCode: so.
func wantCode(t *testing.T, what string, got, want api.Errno) {
	t.Helper()
	if got != want {
		t.Errorf("%s: %s, want %s", brief(what), code(got), code(want))
	}
}

// alike: are two structures one, but for the numbers of what is bound in them, each list as it stands?
func alike(a, b api.Str) bool { return alikeAbs(api.Abs{S: a}, api.Abs{S: b}) }

func alikeAbs(a, b api.Abs) bool {
	return len(a.Stamps) == len(b.Stamps) && tell(names(a.S)) == tell(names(b.S)) && env.SameAbs(a, b)
}

// names: those of all members, as they stand.
func names(s api.Str) []string {
	var l []string
	for _, m := range s.Types {
		l = append(l, "type "+m.Name)
		for _, c := range m.Ctors {
			l = append(l, c.Name)
		}
	}
	for _, m := range s.Vals {
		l = append(l, "val "+m.Name)
	}
	for _, m := range s.Subs {
		l = append(append(append(l, "structure "+m.Name), names(m.S)...), "end")
	}
	for _, m := range s.Funs {
		l = append(append(append(append(l, "functor "+m.Name), names(m.F.Arg)...), "to"), names(m.F.Res.S)...)
		l = append(l, fmt.Sprint(len(m.F.Stamps), len(m.F.Res.Stamps)))
	}
	for _, m := range s.Sigs {
		l = append(append(append(l, "signature "+m.Name), names(m.A.S)...), fmt.Sprint(len(m.A.Stamps)))
	}
	return l
}
