package env_test

import (
	"reflect"
	"slices"
	"strconv"
	"strings"

	"wafer/api"
	"wafer/env"
)

// What follows answers by the chapter's words alone, as plainly as can be, for small structures.

// cloned: the same plain data in new memory.
func cloned[T any](x T) T {
	y := reflect.New(reflect.TypeOf(x)).Elem()
	y.Set(reflect.ValueOf(x))
	cloneIn(y)
	return y.Interface().(T)
}

func cloneIn(v reflect.Value) {
	switch v.Kind() {
	case reflect.Struct:
		for i := range v.NumField() {
			cloneIn(v.Field(i))
		}
	case reflect.Slice:
		l := reflect.MakeSlice(v.Type(), v.Len(), v.Len())
		reflect.Copy(l, v)
		for i := range l.Len() {
			cloneIn(l.Index(i))
		}
		v.Set(l)
	}
}

// byName: a list in the order of names; those of one name as they stood.
func byName[M any](l []M, name func(M) string) []M {
	var out []M
	for _, m := range l {
		at := len(out)
		for at > 0 && name(out[at-1]) > name(m) {
			at--
		}
		out = slices.Insert(out, at, m)
	}
	return out
}

func plainSorted(s api.Str) api.Str {
	s = cloned(s)
	for i := range s.Subs {
		s.Subs[i].S = plainSorted(s.Subs[i].S)
	}
	for i := range s.Funs {
		s.Funs[i].F.Arg = plainSorted(s.Funs[i].F.Arg)
		s.Funs[i].F.Res.S = plainSorted(s.Funs[i].F.Res.S)
	}
	for i := range s.Sigs {
		s.Sigs[i].A.S = plainSorted(s.Sigs[i].A.S)
	}
	return api.Str{
		Types: byName(s.Types, func(m api.TyMember) string { return m.Name }),
		Vals:  byName(s.Vals, func(m api.ValMember) string { return m.Name }),
		Subs:  byName(s.Subs, func(m api.SubMember) string { return m.Name }),
		Funs:  byName(s.Funs, func(m api.FunMember) string { return m.Name }),
		Sigs:  byName(s.Sigs, func(m api.SigMember) string { return m.Name }),
	}
}

// around: the binders around a place, the nearest one last.
type around []*[]int

// of: the nearest one that has a number, nil if none has.
func (in around) of(n int) *[]int {
	for _, b := range slices.Backward(in) {
		if slices.Contains(*b, n) {
			return b
		}
	}
	return nil
}

// visitor: is handed each place of a stamp and each binder, from the left, with the binders around it (a binder's own Stamps are around it, too).
type visitor struct {
	at     func(t *api.Type, in around)
	binder func(stamps *[]int, in around)
}

func (v visitor) abs(a *api.Abs, in around) {
	in = append(slices.Clip(in), &a.Stamps)
	if v.binder != nil {
		v.binder(&a.Stamps, in)
	}
	v.str(&a.S, in)
}

func (v visitor) fun(f *api.Fun, in around) {
	in = append(slices.Clip(in), &f.Stamps)
	if v.binder != nil {
		v.binder(&f.Stamps, in)
	}
	v.str(&f.Arg, in)
	v.abs(&f.Res, in)
}

func (v visitor) str(s *api.Str, in around) {
	for i := range s.Types {
		v.typ(&s.Types[i].T, in)
		for k := range s.Types[i].Ctors {
			for j := range s.Types[i].Ctors[k].Args {
				v.typ(&s.Types[i].Ctors[k].Args[j], in)
			}
		}
	}
	for i := range s.Vals {
		v.typ(&s.Vals[i].S.T, in)
	}
	for i := range s.Subs {
		v.str(&s.Subs[i].S, in)
	}
	for i := range s.Funs {
		v.fun(&s.Funs[i].F, in)
	}
	for i := range s.Sigs {
		v.abs(&s.Sigs[i].A, in)
	}
}

func (v visitor) typ(t *api.Type, in around) {
	if t.Kind == api.TStamp && v.at != nil {
		v.at(t, in)
	}
	for i := range t.Kids {
		v.typ(&t.Kids[i], in)
	}
}

func plainFree(a api.Abs) []int {
	var l []int
	visitor{at: func(t *api.Type, in around) {
		if in.of(t.N) == nil {
			l = append(l, t.N)
		}
	}}.abs(&a, nil)
	slices.Sort(l)
	return slices.Compact(l)
}

// plainStamps: of all that an environment has but its terms.
func plainStamps(e env.Env) []int {
	var l []int
	v := visitor{at: func(t *api.Type, in around) {
		if in.of(t.N) == nil {
			l = append(l, t.N)
		}
	}}
	for _, x := range e.Vals {
		v.typ(&x.S.T, nil)
	}
	for _, x := range e.Cons {
		v.typ(&x.T, nil)
		v.str(&api.Str{Types: []api.TyMember{{Ctors: x.All}, {Ctors: []api.Ctor{{Args: x.Args}}}}}, nil)
	}
	for _, x := range e.Typs {
		v.str(&api.Str{Types: []api.TyMember{{T: x.T, Ctors: x.Ctors}}}, nil)
	}
	for _, x := range e.Subs {
		v.str(&x.S, nil)
	}
	for _, x := range e.Funs {
		v.fun(&x.F, nil)
	}
	for _, x := range e.Sigs {
		v.abs(&x.A, nil)
	}
	slices.Sort(l)
	return slices.Compact(l)
}

func plainSizeType(t api.Type) int {
	n := 1
	for _, kid := range t.Kids {
		n += plainSizeType(kid)
	}
	return n
}

func plainSize(s api.Str) int {
	n := 1
	for _, m := range s.Types {
		n += 1 + plainSizeType(m.T)
		for _, c := range m.Ctors {
			n++
			for _, t := range c.Args {
				n += plainSizeType(t)
			}
		}
	}
	for _, m := range s.Vals {
		n += 1 + plainSizeType(m.S.T)
	}
	for _, m := range s.Subs {
		n += 1 + plainSize(m.S)
	}
	for _, m := range s.Funs {
		n += 1 + len(m.F.Stamps) + plainSize(m.F.Arg) + plainSizeAbs(m.F.Res)
	}
	for _, m := range s.Sigs {
		n += 1 + plainSizeAbs(m.A)
	}
	return n
}

func plainSizeAbs(a api.Abs) int { return len(a.Stamps) + plainSize(a.S) }

// nameless: an Abs in which bound stamps are told by how far away their binders are and where they stand there (the last place of several), and free ones by what becomes of them.
func nameless(a api.Abs, free func(int) int) api.Abs {
	a = cloned(a)
	type change struct {
		t       *api.Type
		kind, n int
	}
	var changes []change
	var binders []*[]int
	visitor{
		at: func(t *api.Type, in around) {
			b := in.of(t.N)
			if b == nil {
				changes = append(changes, change{t, t.Kind, free(t.N)})
				return
			}
			changes = append(changes, change{t, 1000 + len(in) - slices.Index(in, b), lastIndex(*b, t.N)})
		},
		binder: func(stamps *[]int, _ around) { binders = append(binders, stamps) },
	}.abs(&a, nil)
	for _, c := range changes {
		c.t.Kind, c.t.N = c.kind, c.n
	}
	for _, b := range binders {
		was := slices.Clone(*b)
		for i, n := range was {
			(*b)[i] = lastIndex(was, n)
		}
	}
	return a
}

func lastIndex(l []int, n int) int {
	for i, m := range slices.Backward(l) {
		if m == n {
			return i
		}
	}
	return -1
}

// renaming: what becomes of a free stamp.
func renaming(from, to []int) func(int) int {
	return func(n int) int {
		for i := range min(len(from), len(to)) {
			if from[i] == n {
				return to[i]
			}
		}
		return n
	}
}

// catchers: for each binder, from the left, for each of its Stamps: would it catch a free stamp that is renamed?
func catchers(a api.Abs, becomes func(int) int) [][]bool {
	a = cloned(a)
	var binders []*[]int
	reached := map[*[]int][]int{} // by binder: what the free stamps that stand in it become
	visitor{
		binder: func(stamps *[]int, _ around) { binders = append(binders, stamps) },
		at: func(t *api.Type, in around) {
			if in.of(t.N) == nil {
				for _, b := range in {
					reached[b] = append(reached[b], becomes(t.N))
				}
			}
		},
	}.abs(&a, nil)
	var out [][]bool
	for _, b := range binders {
		l := make([]bool, len(*b))
		for i, n := range *b {
			l[i] = slices.Contains(reached[b], n)
		}
		out = append(out, l)
	}
	return out
}

// binderLists: the Stamps of all binders, from the left.
func binderLists(a api.Abs) [][]int {
	var l [][]int
	visitor{binder: func(stamps *[]int, _ around) { l = append(l, *stamps) }}.abs(&a, nil)
	return l
}

// plainCanon: by the words: in order, then each bound stamp the next number as it first stands.
func plainCanon(a api.Abs) api.Abs {
	type key struct {
		by *[]int
		n  int
	}
	type place struct {
		t   *api.Type
		key key
	}
	a = api.Abs{Stamps: slices.Clone(a.Stamps), S: plainSorted(a.S)}
	free := plainFree(a)
	var firsts []key
	var places []place
	var binders []*[]int
	visitor{
		binder: func(stamps *[]int, _ around) { binders = append(binders, stamps) },
		at: func(t *api.Type, in around) {
			k := key{in.of(t.N), t.N}
			if k.by == nil {
				return
			}
			places = append(places, place{t, k})
			if !slices.Contains(firsts, k) {
				firsts = append(firsts, k)
			}
		},
	}.abs(&a, nil)
	var given []int
	for n := 0; len(given) < len(firsts); n++ {
		if !slices.Contains(free, n) {
			given = append(given, n)
		}
	}
	for _, p := range places {
		p.t.N = given[slices.Index(firsts, p.key)]
	}
	for _, b := range binders {
		*b = nil
	}
	for i, k := range firsts {
		*k.by = append(*k.by, given[i])
	}
	return a
}

// twins: two binders at one place, and which of their numbers stand for each other.
type twins struct {
	left, right []int
	pairs       [][2]int
}

// plainSame: are two Abs one, up to the order of lists and to what is bound? Both are gone through side by side.
func plainSame(a, b api.Abs) bool {
	a.S, b.S = plainSorted(a.S), plainSorted(b.S)
	return sameAbs(a, b, nil)
}

func sameAbs(a, b api.Abs, in []*twins) bool {
	return sameStr(a.S, b.S, append(slices.Clip(in), &twins{left: a.Stamps, right: b.Stamps}))
}

func sameStr(a, b api.Str, in []*twins) bool {
	types := func(x, y api.Type) bool { return sameType(x, y, in) }
	return slices.EqualFunc(a.Types, b.Types, func(x, y api.TyMember) bool {
		return x.Name == y.Name && types(x.T, y.T) && slices.EqualFunc(x.Ctors, y.Ctors, func(x, y api.Ctor) bool {
			return x.Name == y.Name && slices.EqualFunc(x.Args, y.Args, types)
		})
	}) && slices.EqualFunc(a.Vals, b.Vals, func(x, y api.ValMember) bool {
		return x.Name == y.Name && x.S.Gens == y.S.Gens && types(x.S.T, y.S.T)
	}) && slices.EqualFunc(a.Subs, b.Subs, func(x, y api.SubMember) bool {
		return x.Name == y.Name && sameStr(x.S, y.S, in)
	}) && slices.EqualFunc(a.Funs, b.Funs, func(x, y api.FunMember) bool {
		inner := append(slices.Clip(in), &twins{left: x.F.Stamps, right: y.F.Stamps})
		return x.Name == y.Name && sameStr(x.F.Arg, y.F.Arg, inner) && sameAbs(x.F.Res, y.F.Res, inner)
	}) && slices.EqualFunc(a.Sigs, b.Sigs, func(x, y api.SigMember) bool {
		return x.Name == y.Name && sameAbs(x.A, y.A, in)
	})
}

func sameType(x, y api.Type, in []*twins) bool {
	if x.Kind != y.Kind || x.Kind != api.TStamp && x.N != y.N || x.Kind == api.TStamp && !sameStamp(x.N, y.N, in) {
		return false
	}
	return slices.EqualFunc(x.Kids, y.Kids, func(x, y api.Type) bool { return sameType(x, y, in) })
}

func sameStamp(x, y int, in []*twins) bool {
	for _, b := range slices.Backward(in) {
		left, right := slices.Contains(b.left, x), slices.Contains(b.right, y)
		if left != right {
			return false
		}
		if !left {
			continue
		}
		for _, p := range b.pairs {
			if p[0] == x || p[1] == y {
				return p == [2]int{x, y}
			}
		}
		b.pairs = append(b.pairs, [2]int{x, y})
		return true
	}
	return x == y
}

// plainText: the lines of an Abs, those of a part set in behind it.
func plainText(a api.Abs) string {
	a = plainCanon(a)
	var bound []int
	for _, l := range binderLists(a) {
		bound = append(bound, l...)
	}
	slices.Sort(bound)
	text := ""
	for _, line := range plainLines(a.S, bound) {
		text += line + "\n"
	}
	return text
}

func setIn(blanks string, lines []string) []string {
	var out []string
	for _, line := range lines {
		out = append(out, blanks+line)
	}
	return out
}

func plainLines(s api.Str, bound []int) []string {
	var out []string
	for _, m := range s.Types {
		if len(m.Ctors) == 0 {
			out = append(out, "type "+m.Name+" = "+plainType(m.T, bound))
			continue
		}
		var l []string
		for _, c := range m.Ctors {
			text := c.Name
			for _, t := range c.Args {
				text += " of " + plainType(t, bound)
			}
			l = append(l, text)
		}
		out = append(out, "data "+m.Name+" = "+plainType(m.T, bound)+": "+strings.Join(l, " | "))
	}
	for _, m := range s.Vals {
		out = append(out, "val "+m.Name+": "+plainType(m.S.T, bound))
	}
	for _, m := range s.Subs {
		out = append(out, "structure "+m.Name)
		out = append(out, setIn("  ", plainLines(m.S, bound))...)
	}
	for _, m := range s.Funs {
		out = append(out, "functor "+m.Name, "  from")
		out = append(out, setIn("    ", plainLines(m.F.Arg, bound))...)
		out = append(out, "  to")
		out = append(out, setIn("    ", plainLines(m.F.Res.S, bound))...)
	}
	for _, m := range s.Sigs {
		out = append(out, "signature "+m.Name)
		out = append(out, setIn("  ", plainLines(m.A.S, bound))...)
	}
	return out
}

// plainType: chapter 8's text, but for bound stamps.
func plainType(t api.Type, bound []int) string {
	inner := func(kid api.Type, kinds ...int) string {
		text := plainType(kid, bound)
		if slices.Contains(kinds, kid.Kind) && len(kid.Kids) == 2 {
			return "(" + text + ")"
		}
		return text
	}
	switch {
	case t.Kind == api.TInt:
		return "int"
	case t.Kind == api.TBool:
		return "bool"
	case t.Kind == api.TUnit:
		return "unit"
	case t.Kind == api.TFn && len(t.Kids) == 2:
		return inner(t.Kids[0], api.TFn) + " -> " + inner(t.Kids[1])
	case t.Kind == api.TPair && len(t.Kids) == 2:
		return inner(t.Kids[0], api.TFn) + " * " + inner(t.Kids[1], api.TFn, api.TPair)
	case t.Kind == api.TStamp:
		if i := slices.Index(bound, t.N); i >= 0 {
			return "?" + strconv.Itoa(i+1)
		}
		return "#" + strconv.Itoa(t.N)
	case t.Kind == api.TMeta:
		return "?" + strconv.Itoa(t.N)
	case t.Kind == api.TGen && t.N < 0:
		return "'?"
	case t.Kind == api.TGen && t.N < 26:
		return "'" + string(rune('a'+t.N))
	case t.Kind == api.TGen:
		return "'" + string(rune('a'+t.N%26)) + strconv.Itoa(t.N/26)
	}
	return "?"
}

// plainSub: the structure at a path, by going down name by name.
func plainSub(e env.Env, names []string) (env.Sub, bool) {
	if len(names) == 0 {
		return env.Sub{}, false
	}
	last := names[len(names)-1]
	var found env.Sub
	ok := false
	if len(names) == 1 {
		for _, s := range e.Subs {
			if s.Name == last {
				found, ok = s, true
			}
		}
		return found, ok
	}
	in, there := plainSub(e, names[:len(names)-1])
	if !there {
		return found, false
	}
	for _, m := range in.S.Subs {
		if m.Name == last {
			found, ok = env.Sub{Name: last, S: m.S, X: sel(last, in.X)}, true
		}
	}
	return found, ok
}

// plainLook: what stands at a path in an environment, and whether it is there: of lists of it those that are handed, in a structure what is told of that.
func plainLook[E any](e env.Env, names []string, own []E, name func(E) string, in func(s env.Sub, last string) (E, bool)) (E, api.Errno) {
	var found E
	ok := false
	switch len(names) {
	case 0:
	case 1:
		for _, x := range own {
			if name(x) == names[0] {
				found, ok = x, true
			}
		}
	default:
		if s, there := plainSub(e, names[:len(names)-1]); there {
			found, ok = in(s, names[len(names)-1])
		}
	}
	if !ok {
		var none E
		return none, api.ErrUnbound
	}
	return found, api.OK
}

func plainVal(e env.Env, names []string) (env.Val, api.Errno) {
	return plainLook(e, names, e.Vals, func(v env.Val) string { return v.Name }, func(s env.Sub, last string) (v env.Val, ok bool) {
		for _, m := range s.S.Vals {
			if m.Name == last {
				v, ok = env.Val{Name: last, S: m.S, X: sel(last, s.X)}, true
			}
		}
		return v, ok
	})
}

func plainCon(e env.Env, names []string) (env.Con, api.Errno) {
	return plainLook(e, names, e.Cons, func(c env.Con) string { return c.Name }, func(s env.Sub, last string) (c env.Con, ok bool) {
		for _, m := range s.S.Types {
			for i, own := range m.Ctors {
				if own.Name == last {
					c, ok = env.Con{Name: last, T: m.T, Args: own.Args, N: i, All: m.Ctors, X: sel(last+"()", s.X), Out: sel("out "+m.Name, s.X)}, true
				}
			}
		}
		return c, ok
	})
}

func plainTyp(e env.Env, names []string) (env.Typ, api.Errno) {
	return plainLook(e, names, e.Typs, func(t env.Typ) string { return t.Name }, func(s env.Sub, last string) (t env.Typ, ok bool) {
		for _, m := range s.S.Types {
			if m.Name == last {
				t, ok = env.Typ{Name: last, T: m.T, Ctors: m.Ctors}, true
			}
		}
		return t, ok
	})
}

func plainSubAt(e env.Env, names []string) (env.Sub, api.Errno) {
	s, ok := plainSub(e, names)
	if !ok {
		return env.Sub{}, api.ErrUnbound
	}
	return s, api.OK
}

func plainFun(e env.Env, names []string) (env.Fun, api.Errno) {
	return plainLook(e, names, e.Funs, func(f env.Fun) string { return f.Name }, func(s env.Sub, last string) (f env.Fun, ok bool) {
		for _, m := range s.S.Funs {
			if m.Name == last {
				f, ok = env.Fun{Name: last, F: m.F, X: sel(last, s.X)}, true
			}
		}
		return f, ok
	})
}

func plainSig(e env.Env, names []string) (env.Sig, api.Errno) {
	return plainLook(e, names, e.Sigs, func(g env.Sig) string { return g.Name }, func(s env.Sub, last string) (g env.Sig, ok bool) {
		for _, m := range s.S.Sigs {
			if m.Name == last {
				g, ok = env.Sig{Name: last, A: m.A}, true
			}
		}
		return g, ok
	})
}
