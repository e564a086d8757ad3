package names_test

import (
	"regexp"
	"slices"
	"strings"
	"testing"

	"wafer/api"
	"wafer/names"
)

// reserved: the chapter's list, held against both Reserved and Words.
const reserved = "bool case data else end false fn fun functor if in int let of sig signature struct structure then true type unit val where"

var (
	nameForm  = regexp.MustCompile(`\A[A-Za-z][A-Za-z_0-9]*\z`)
	tyvarForm = regexp.MustCompile(`\A[a-z][a-z0-9]{0,30}\z`)
)

// small: every text of at most most bytes of the alphabet.
func small(alphabet string, most int) []string {
	all := []string{""}
	for first, size := 0, 0; size < most; size++ {
		last := len(all)
		for _, s := range all[first:last] {
			for i := range len(alphabet) {
				all = append(all, s+alphabet[i:i+1])
			}
		}
		first = last
	}
	return all
}

// samples: texts that are names, that are nearly names, and that are none.
func samples() []string {
	all := small("aZ_9.' (\x80", 3)
	for c := range 256 {
		b := string([]byte{byte(c)})
		all = append(all, b, "a"+b, "A"+b, b+"a", "a"+b+"a")
	}
	for _, w := range strings.Fields(reserved) {
		all = append(all, w, strings.ToUpper(w), strings.ToUpper(w[:1])+w[1:], w+"1", w+"_", "x"+w, w[:len(w)-1], w+w)
	}
	for _, first := range []string{"a", "A", "_", "9", "'", "\xc3"} {
		for _, n := range []int{29, 30, 31, 32, 33, 34, 100, 5000} {
			long := first + strings.Repeat("b", n-1)
			all = append(all, long, long[:n-1]+"_", long[:n-1]+"9", long[:n-1]+"-", long[:n-1]+"\xff", long[:n-1]+"C")
		}
	}
	return append(all, "\u00e9", "a\u00e9", "\u00c9a", "a\x00", "a\n", " a", "int ", "out a", "A()", "\u212a", "\uff21")
}

// slowRight: Right by the chapter's words.
func slowRight(s string) api.Errno {
	if !nameForm.MatchString(s) {
		return api.ErrName
	}
	if len(s) > 32 {
		return api.ErrBig
	}
	if slices.Contains(strings.Fields(reserved), s) {
		return api.ErrName
	}
	return api.OK
}

func TestF21Right(t *testing.T) {
	a32 := strings.Repeat("a", 32)
	for _, x := range []struct {
		s    string
		want api.Errno
	}{
		{"a", api.OK}, {"_9", api.ErrName}, {"a'", api.ErrName}, {"", api.ErrName}, {"where", api.ErrName}, {"Where", api.OK},
		{"A", api.OK}, {"z", api.OK}, {"Z", api.OK}, {"a_9Z", api.OK}, {"9", api.ErrName}, {"_", api.ErrName},
		{"@", api.ErrName}, {"[", api.ErrName}, {"`", api.ErrName}, {"{", api.ErrName},
		{"a/", api.ErrName}, {"a:", api.ErrName}, {"a0", api.OK}, {"a9", api.OK},
		{"a\x80", api.ErrName}, {"\xe1", api.ErrName}, {"\u00e9", api.ErrName}, {"a\u00e9", api.ErrName}, {"a\x00", api.ErrName},
		{a32, api.OK}, {a32 + "a", api.ErrBig}, {strings.ToUpper(a32), api.OK}, {strings.ToUpper(a32) + "A", api.ErrBig},
		{a32 + "'", api.ErrName}, {a32 + "aa.", api.ErrName}, {a32 + "\xff", api.ErrName}, {"9" + a32, api.ErrName}, {"_" + a32, api.ErrName},
		{"a" + strings.Repeat("_", 31), api.OK}, {strings.Repeat("b", 1<<20), api.ErrBig}, {strings.Repeat("b", 1<<20) + " ", api.ErrName},
		{"iff", api.OK}, {"i", api.OK}, {"IF", api.OK}, {"functo", api.OK}, {"struct", api.ErrName}, {"structs", api.OK},
	} {
		if got := names.Right(x.s); got != x.want {
			t.Errorf("Right(%.40q) = %d, want %d", x.s, got, x.want)
		}
	}
	for _, w := range strings.Fields(reserved) {
		if got := names.Right(w); got != api.ErrName {
			t.Errorf("Right(%q) = %d, want ErrName", w, got)
		}
	}
	for _, s := range samples() {
		if got, want := names.Right(s), slowRight(s); got != want {
			t.Errorf("Right(%.40q) = %d, want %d", s, got, want)
		}
	}
}

func TestF21LowerAndUpper(t *testing.T) {
	for _, x := range []struct {
		s          string
		low, upper bool
	}{
		{"x1", true, false}, {"X", false, true}, {"if", false, false}, {"If", false, true}, {"", false, false},
		{"a", true, false}, {"z", true, false}, {"A", false, true}, {"Z", false, true}, {"_a", false, false}, {"1a", false, false},
		{"aB", true, false}, {"Ab", false, true}, {"a'", false, false}, {"A'", false, false}, {"\xe1", false, false},
		{strings.Repeat("a", 32), true, false}, {strings.Repeat("a", 33), false, false},
		{strings.Repeat("A", 32), false, true}, {strings.Repeat("A", 33), false, false},
	} {
		if low, upper := names.Lower(x.s), names.Upper(x.s); low != x.low || upper != x.upper {
			t.Errorf("Lower, Upper(%q) = %v, %v, want %v, %v", x.s, low, upper, x.low, x.upper)
		}
	}
	for _, s := range samples() {
		name := slowRight(s) == api.OK
		low := name && s[0] >= 'a'
		if names.Lower(s) != low || names.Upper(s) != (name && !low) {
			t.Errorf("Lower, Upper(%.40q) = %v, %v", s, names.Lower(s), names.Upper(s))
		}
	}
}

func TestF21Tyvar(t *testing.T) {
	for _, x := range []struct {
		s    string
		want bool
	}{
		{"a", true}, {"z", true}, {"int", true}, {"where", true}, {"a0", true}, {"a9z", true}, {"", false},
		{"aB", false}, {"A", false}, {"a_", false}, {"_a", false}, {"9", false}, {"'a", false}, {"a'", false}, {"a\x80", false}, {"\xe1", false},
		{strings.Repeat("a", 31), true}, {strings.Repeat("a", 32), false}, {strings.Repeat("a", 33), false},
		{"a" + strings.Repeat("1", 30), true}, {"a" + strings.Repeat("1", 31), false},
	} {
		if got := names.Tyvar(x.s); got != x.want {
			t.Errorf("Tyvar(%q) = %v, want %v", x.s, got, x.want)
		}
	}
	for _, w := range strings.Fields(reserved) {
		if !names.Tyvar(w) {
			t.Errorf("Tyvar(%q) = false", w)
		}
	}
	for _, s := range samples() {
		if got, want := names.Tyvar(s), tyvarForm.MatchString(s); got != want {
			t.Errorf("Tyvar(%.40q) = %v, want %v", s, got, want)
		}
	}
}

func TestF21ReservedAndWords(t *testing.T) {
	words := names.Words()
	if got := strings.Join(words, " "); got != reserved {
		t.Errorf("Words() = %s", got)
	}
	if !slices.IsSorted(words) {
		t.Errorf("Words() is out of order: %q", words)
	}
	for _, s := range samples() {
		if got, want := names.Reserved(s), slices.Contains(strings.Fields(reserved), s); got != want {
			t.Errorf("Reserved(%.40q) = %v, want %v", s, got, want)
		}
	}
	for i := range words {
		words[i] = "x"
	}
	_ = append(words[:0:cap(words)], make([]string, cap(words))...)
	if got := strings.Join(names.Words(), " "); got != reserved {
		t.Errorf("Words() = %s, once a caller wrote into it", got)
	}
	if !names.Reserved("bool") || names.Reserved("x") {
		t.Error("what a caller wrote into Words changes Reserved")
	}
}

// slowLess: is a less than b, byte by byte?
func slowLess(a, b string) bool {
	for i := 0; i < len(a) && i < len(b); i++ {
		if a[i] != b[i] {
			return a[i] < b[i]
		}
	}
	return len(a) < len(b)
}

func TestF22Cmp(t *testing.T) {
	for _, x := range []struct {
		a, b string
		want int
	}{
		{"", "", 0}, {"", "a", -1}, {"a", "", 1}, {"a", "a", 0}, {"a", "b", -1}, {"b", "a", 1}, {"b", "aa", 1},
		{"a", "aa", -1}, {"aa", "a", 1}, {"ab", "aa", 1}, {"B", "a", -1}, {"Z", "_", -1}, {"_", "a", -1}, {"9", "A", -1}, {"a10", "a9", -1},
		{"\x7f", "\x80", -1}, {"\xff", "a", 1}, {"a\x00", "a", 1}, {"\u00e9", "z", 1}, {"\ue000", "\U00010000", -1}, {"a", "zzzz", -1}, {"zzzz", "a", 1},
	} {
		if got := names.Cmp(x.a, x.b); got != x.want {
			t.Errorf("Cmp(%q, %q) = %d, want %d", x.a, x.b, got, x.want)
		}
	}
}

func TestP201CmpIsAnOrder(t *testing.T) {
	all := append(small("aB\x80", 3), "\xff", "\xff\xff", "a\x00", "\x00")
	for _, a := range all {
		for _, b := range all {
			ab := names.Cmp(a, b)
			if ab != -names.Cmp(b, a) {
				t.Errorf("Cmp(%q, %q), turned round, is not turned", a, b)
			}
			if (ab == 0) != (a == b) {
				t.Errorf("Cmp(%q, %q) = %d", a, b, ab)
			}
			if (ab == -1) != slowLess(a, b) || ab < -1 || ab > 1 {
				t.Errorf("Cmp(%q, %q) = %d", a, b, ab)
			}
			for _, c := range all {
				if ab <= 0 && names.Cmp(b, c) <= 0 && names.Cmp(a, c) > 0 {
					t.Errorf("Cmp does not go on through %q from %q to %q", b, a, c)
				}
			}
		}
	}
}

func TestF22Set(t *testing.T) {
	for _, x := range []struct{ l, want []string }{
		{nil, nil}, {[]string{}, nil}, {[]string{""}, []string{""}}, {[]string{"", "a", ""}, []string{"", "a"}},
		{[]string{"b", "a", "b"}, []string{"a", "b"}}, {[]string{"a", "b", "c"}, []string{"a", "b", "c"}}, {[]string{"c", "b", "a"}, []string{"a", "b", "c"}},
		{[]string{"a", "a", "a"}, []string{"a"}}, {[]string{"a", "B", "\xff", "_", "aa", "9"}, []string{"9", "B", "_", "a", "aa", "\xff"}},
		{[]string{"x", "y", "x", "y", "x"}, []string{"x", "y"}},
	} {
		if got := names.Set(x.l); !slices.Equal(got, x.want) {
			t.Errorf("Set(%q) = %q, want %q", x.l, got, x.want)
		}
	}
}

func TestP201SetOfASetIsIt(t *testing.T) {
	for _, code := range small("\x00\x01\x02\x03", 5) {
		var l []string
		in := map[string]bool{}
		for i := range len(code) {
			s := []string{"", "a", "aB", "\x80"}[code[i]]
			l, in[s] = append(l, s), true
		}
		set := names.Set(l)
		for i, s := range set {
			if !in[s] || i > 0 && names.Cmp(set[i-1], s) != -1 {
				t.Errorf("Set(%q) = %q", l, set)
			}
		}
		if len(set) != len(in) {
			t.Errorf("Set(%q) = %q", l, set)
		}
		if again := names.Set(set); !slices.Equal(again, set) {
			t.Errorf("Set(%q) = %q", set, again)
		}
	}
}

func TestSetLeavesItsListAlone(t *testing.T) {
	room := []string{"b", "a", "b", "x", "y"}
	keep := slices.Clone(room)
	set := names.Set(room[:3])
	if !slices.Equal(room, keep) {
		t.Errorf("Set changed its list: %q", room)
	}
	set = set[:cap(set)]
	for i := range set {
		set[i] = "z"
	}
	if !slices.Equal(room, keep) {
		t.Errorf("Set shares memory with its list: %q", room)
	}
	// A list that is a set already is a new list too.
	room = []string{"a", "b"}
	names.Set(room)[0] = "z"
	if room[0] != "a" {
		t.Error("Set of a set hands out its argument")
	}
}

// slowPath: Path by the chapter's words.
func slowPath(p []string) api.Errno {
	if len(p) == 0 {
		return api.ErrArg
	}
	if len(p) > 8 {
		return api.ErrBig
	}
	for i, s := range p {
		if e := slowRight(s); e != api.OK {
			return e
		}
		if i != len(p)-1 && (s[0] < 'A' || s[0] > 'Z') {
			return api.ErrName
		}
	}
	return api.OK
}

func TestF23Path(t *testing.T) {
	a33, b33 := strings.Repeat("a", 33), strings.Repeat("B", 33)
	for _, x := range []struct {
		p    string
		want api.Errno
	}{
		{"x", api.OK}, {"X", api.OK}, {"A B x", api.OK}, {"A B C", api.OK}, {"a x", api.ErrName}, {"A b C", api.ErrName}, {"A if", api.ErrName}, {"if", api.ErrName}, {"If x", api.OK},
		{"A A A A A A A x", api.OK}, {"A A A A A A A X", api.OK}, {"A A A A A A a x", api.ErrName}, {"A A A A A A A A x", api.ErrBig}, {"a a a a a a a a a", api.ErrBig},
		{"9 9 9 9 9 9 9 9 9", api.ErrBig}, {"A 9", api.ErrName}, {"A.B", api.ErrName},
		{a33, api.ErrBig}, {b33, api.ErrBig}, {"A " + a33, api.ErrBig}, {b33 + " x", api.ErrBig}, {a33 + " x", api.ErrBig},
		// Of two errors that of the first name is told, whichever of a name's errors it is.
		{"a " + a33, api.ErrName}, {b33 + " 9", api.ErrBig}, {"9 " + b33, api.ErrName}, {b33 + " a x", api.ErrBig}, {"a " + b33 + " x", api.ErrName},
	} {
		if got := names.Path(strings.Fields(x.p)); got != x.want {
			t.Errorf("Path(%s) = %d, want %d", x.p, got, x.want)
		}
	}
	for _, x := range []struct {
		p    []string
		want api.Errno
	}{
		{nil, api.ErrArg}, {[]string{}, api.ErrArg}, {[]string{""}, api.ErrName}, {[]string{"A", ""}, api.ErrName}, {[]string{"", "x"}, api.ErrName}, {make([]string, 8), api.ErrName}, {make([]string, 9), api.ErrBig},
	} {
		if got := names.Path(x.p); got != x.want {
			t.Errorf("Path(%q) = %d, want %d", x.p, got, x.want)
		}
	}
	for n := 1; n <= 9; n++ {
		p := slices.Repeat([]string{"A"}, n)
		for i := range p {
			for _, s := range samples() {
				p[i] = s
				if got, want := names.Path(p), slowPath(p); got != want {
					t.Errorf("Path(%.40q) = %d, want %d", p, got, want)
				}
			}
			p[i] = "A"
		}
	}
}

func TestF23Join(t *testing.T) {
	for _, x := range []struct {
		p    []string
		want string
	}{
		{nil, ""}, {[]string{}, ""}, {[]string{""}, ""}, {[]string{"x"}, "x"}, {[]string{"A", "B", "x"}, "A.B.x"}, {[]string{"", ""}, "."}, {[]string{"a b", "", ".", "9"}, "a b....9"},
		{slices.Repeat([]string{"A"}, 9), "A.A.A.A.A.A.A.A.A"},
	} {
		if got := names.Join(x.p); got != x.want {
			t.Errorf("Join(%q) = %q, want %q", x.p, got, x.want)
		}
	}
}

func wantSplit(t *testing.T, s string, e api.Errno, p ...string) {
	t.Helper()
	got, gotE := names.Split(s)
	if gotE != e || !slices.Equal(got, p) {
		t.Errorf("Split(%.40q) = %.40q, %d, want %.40q, %d", s, got, gotE, p, e)
	}
}

func TestF23Split(t *testing.T) {
	wantSplit(t, "A.B.x", api.OK, "A", "B", "x")
	wantSplit(t, "x", api.OK, "x")
	wantSplit(t, "X", api.OK, "X")
	for _, s := range []string{"a.x", "A.", "", ".", ".x", "A..x", "A.x.", "..", " ", "A. x", "A.if", "if", "A.9", "A,x", "A.\xe1", "A.B.c.d", "A.......x"} {
		wantSplit(t, s, api.ErrName)
	}
	wantSplit(t, "A.A.A.A.A.A.A.x", api.OK, "A", "A", "A", "A", "A", "A", "A", "x")
	wantSplit(t, "A.A.A.A.A.A.A.A.x", api.ErrBig)
	wantSplit(t, ".A.A.A.A.A.A.A.x", api.ErrBig)
	wantSplit(t, "A.A.A.A.A.A.A.x.", api.ErrBig)
	wantSplit(t, "A.A.A.A.A.A.A.", api.ErrName)
	wantSplit(t, ".......", api.ErrName)
	wantSplit(t, "........", api.ErrBig)
	wantSplit(t, strings.Repeat(".", 1<<20), api.ErrBig)
	wantSplit(t, "A."+strings.Repeat("a", 32), api.OK, "A", strings.Repeat("a", 32))
	wantSplit(t, "A."+strings.Repeat("a", 33), api.ErrBig)
	wantSplit(t, "a."+strings.Repeat("a", 33), api.ErrName)
	wantSplit(t, strings.Repeat("A", 33)+".9", api.ErrBig)
	for _, s := range append(samples(), small("Aa.", 10)...) {
		p := strings.Split(s, ".")
		if e := slowPath(p); e != api.OK {
			wantSplit(t, s, e)
		} else {
			wantSplit(t, s, api.OK, p...)
		}
	}
}

func TestP202Paths(t *testing.T) {
	paths := 0
	for _, s := range append(small("Aa9.", 8), samples()...) {
		p, e := names.Split(s)
		if e != api.OK {
			continue
		}
		paths++
		if got := names.Join(p); got != s {
			t.Errorf("Join of Split(%q) = %q", s, got)
		}
		if e := names.Path(p); e != api.OK {
			t.Errorf("Split(%q) = %q, of which Path says %d", s, p, e)
		}
		wantSplit(t, names.Join(p), api.OK, p...)
	}
	if paths < 100 {
		t.Errorf("only %d of the texts are paths", paths)
	}
	for n := 1; n <= api.MaxPath; n++ {
		for _, last := range []string{"x", "X9_", strings.Repeat("z", 32)} {
			p := append(slices.Repeat([]string{"Abc"}, n-1), last)
			wantSplit(t, names.Join(p), api.OK, p...)
		}
	}
}

func wantLabel(t *testing.T, s string, kind int, name string) {
	t.Helper()
	if gotKind, got := names.Label(s); gotKind != kind || got != name {
		t.Errorf("Label(%.40q) = %d, %q, want %d, %q", s, gotKind, got, kind, name)
	}
}

func TestF24ConAndOut(t *testing.T) {
	for _, name := range []string{"Nil", "list", "", "if", "a b", "Nil()", "out list", "\xff"} {
		if got := names.Con(name); got != name+"()" {
			t.Errorf("Con(%q) = %q", name, got)
		}
		if got := names.Out(name); got != "out "+name {
			t.Errorf("Out(%q) = %q", name, got)
		}
	}
}

func TestF24Label(t *testing.T) {
	wantLabel(t, "x", 1, "x")
	wantLabel(t, "Nil", 2, "Nil")
	wantLabel(t, "Nil()", 3, "Nil")
	wantLabel(t, "out list", 4, "list")
	wantLabel(t, "out", 1, "out")
	wantLabel(t, "Out", 2, "Out")
	wantLabel(t, "Out()", 3, "Out")
	wantLabel(t, "out out", 4, "out")
	for _, s := range []string{
		"9", "", "()", "nil()", "if()", "If() ", "Nil()()", "Nil(", "Nil)", "Nil ()", " Nil()", "()Nil", "Nil( )", "9()", "_()",
		"out ", "out Nil", "out if", "out  x", "out x ", "Out x", "out-x", "out 9", "out _", "out out x", "out Nil()", "out x()", "out\tx", "x out ",
		"A.B", "'a", "\xe1", "\xe1()", "out \xe1", "Nil\x00()",
	} {
		wantLabel(t, s, 0, "")
	}
	for _, w := range strings.Fields(reserved) {
		wantLabel(t, w, 0, "")
		wantLabel(t, names.Con(w), 0, "")
		wantLabel(t, names.Out(w), 0, "")
	}
	a, b := strings.Repeat("a", 32), strings.Repeat("B", 32)
	wantLabel(t, a, 1, a)
	wantLabel(t, b, 2, b)
	wantLabel(t, b+"()", 3, b)
	wantLabel(t, "out "+a, 4, a)
	for _, s := range []string{a + "a", b + "B", b + "B()", "out " + a + "a", a + "()", "out " + b} {
		wantLabel(t, s, 0, "")
	}
}

func TestP203LabelsTellApart(t *testing.T) {
	type thing struct {
		kind int
		name string
	}
	of := map[string]thing{}
	claim := func(label string, kind int, name string) {
		if other, ok := of[label]; ok && other != (thing{kind, name}) {
			t.Errorf("%.40q is the label of both %v and %v", label, other, thing{kind, name})
		}
		of[label] = thing{kind, name}
		wantLabel(t, label, kind, name)
	}
	all := append(samples(), small("outA ()", 5)...)
	for _, s := range all {
		switch {
		case slowRight(s) != api.OK:
			wantNoLabel(t, s)
		case s[0] >= 'a':
			claim(s, 1, s)
			claim(names.Out(s), 4, s)
			wantLabel(t, names.Con(s), 0, "")
		default:
			claim(s, 2, s)
			claim(names.Con(s), 3, s)
			wantLabel(t, names.Out(s), 0, "")
		}
	}
	for _, s := range all {
		if kind, name := names.Label(s); kind != 0 && of[s] != (thing{kind, name}) {
			t.Errorf("Label(%.40q) = %d, %q, but it is the label of %v", s, kind, name, of[s])
		}
	}
}

// wantNoLabel: what is no name is no value's and no structure's label, and makes no other one.
func wantNoLabel(t *testing.T, s string) {
	t.Helper()
	if kind, name := names.Label(s); kind == 1 || kind == 2 || kind == 0 && name != "" {
		t.Errorf("Label(%.40q) = %d, %q", s, kind, name)
	}
	wantLabel(t, names.Con(s), 0, "")
	wantLabel(t, names.Out(s), 0, "")
}
