package parsecore_test

import (
	"fmt"
	"math/rand"
	"reflect"
	"slices"
	"strings"
	"testing"

	"wafer/api"
	"wafer/lex"
	"wafer/parsecore"
)

// read: a reader of a text that lex takes.
func read(t *testing.T, s string) *parsecore.Reader {
	t.Helper()
	r, at, e := parsecore.Read(s)
	if r == nil || at != 0 || e != api.OK {
		t.Fatalf("Read of %q: %v, %d, %v", brief(s), r, at, e)
	}
	return r
}

// ask: does one call of a reader, told by a word and what it is handed, and tells what it answers.
func ask(r *parsecore.Reader, what string) string {
	name, arg, _ := strings.Cut(what, " ")
	switch name {
	case "Ty":
		return showTy(r.Ty())
	case "Pat":
		return showPat(r.Pat())
	case "Exp":
		return showExp(r.Exp())
	case "Dec":
		return showDec(r.Dec())
	case "Is":
		return fmt.Sprint(r.Is(arg))
	case "Take":
		return fmt.Sprint(r.Take(arg))
	case "Need":
		r.Need(arg)
		return ""
	case "Lower":
		return r.Lower()
	case "Upper":
		return r.Upper()
	case "Path":
		return strings.Join(r.Path(arg == "true"), ".")
	case "Next":
		token, more := r.Next()
		return fmt.Sprintf("%v %v", token, more)
	case "Fail":
		var e api.Errno
		fmt.Sscan(arg, (*int)(&e))
		r.Fail(e)
		return ""
	case "Done":
		at, e := r.Done()
		return fmt.Sprint(at, " ", int(e))
	}
	return "no such call"
}

// nothing: what each call answers that answers zero.
func nothing(what string) string {
	name, _, _ := strings.Cut(what, " ")
	switch name {
	case "Ty":
		return showTy(api.Ty{})
	case "Pat":
		return showPat(api.Pat{})
	case "Exp":
		return showExp(api.Exp{})
	case "Dec":
		return showDec(api.Dec{})
	case "Is", "Take":
		return "false"
	case "Next":
		return fmt.Sprintf("%v false", lex.Token{})
	}
	return ""
}

// calls: each call, with something to hand to it.
var calls = []string{
	"Ty", "Pat", "Exp", "Dec", "Is val", "Is (", "Is x", "Is", "Take val", "Take (", "Take )", "Take x", "Take 1", "Take", "Need val", "Need (", "Need x", "Need", "Lower", "Upper", "Path true", "Path false", "Next", "Fail 0", "Fail 11", "Fail 3", "Done",
}

// script: asks a reader of a text one thing behind the other: each line is a call and, behind a ~, what it answers.
func script(t *testing.T, s string, lines ...string) {
	t.Helper()
	r := read(t, s)
	for i, line := range lines {
		what, want, _ := strings.Cut(line, " ~ ")
		if want == "nothing" {
			want = nothing(what)
		}
		if got := ask(r, what); got != want {
			t.Errorf("%q, call %d, %s: %s, not %s", brief(s), i, what, brief(got), want)
		}
	}
}

// TestP502Read: a reader ahead of the first token, or Lex's error and its place.
func TestP502Read(t *testing.T) {
	script(t, "", "Next ~ {0  0 0} false", "Done ~ 0 0")
	script(t, " \n(* *) ", "Next ~ {0  0 0} false", "Done ~ 0 0")
	script(t, " x", "Next ~ {1 x 0 1} true", "Next ~ {1 x 0 1} true", "Done ~ 1 11", "Lower ~ x", "Next ~ nothing", "Done ~ 0 0")
	for _, s := range []string{"x #", "(*", ") 'A", "9223372036854775808", strings.Repeat("1 ", 1025), strings.Repeat(" ", 4097), "x " + strings.Repeat("y", 33)} {
		_, wantAt, want := lex.Lex(s)
		if r, at, e := parsecore.Read(s); r != nil || at != wantAt || e != want || e == api.OK {
			t.Errorf("Read of %q: %v, %d, %v, not %d, %v", brief(s), r, at, e, wantAt, want)
		}
	}
}

// TestP502Takes: each call takes what it is named for, and stands behind it: at the beginning, in the middle, at the end.
func TestP502Takes(t *testing.T) {
	script(t, "int -> t ) x", "Ty ~ [-> int t]", "Is ) ~ true", "Done ~ 9 11")
	script(t, "; a * b", "Need ;", "Ty ~ [* a b]", "Done ~ 0 0", "Ty ~ nothing", "Done ~ 7 11")
	script(t, "t u", "Ty ~ t", "Ty ~ u", "Done ~ 0 0")
	script(t, "A x y", "Pat ~ [@A x]", "Next ~ {1 y 0 4} true", "Pat ~ y", "Done ~ 0 0", "Pat ~ nothing", "Done ~ 5 11")
	script(t, "x y = z = 1 => 2", "Exp ~ [= [app x y] z]", "Is = ~ true", "Take = ~ true", "Exp ~ #1", "Need =>", "Exp ~ #2", "Done ~ 0 0")
	script(t, "x)", "Exp ~ x", "Next ~ {6 ) 0 1} true", "Need )", "Done ~ 0 0")
	script(t, "f x fn y => y", "Exp ~ [app f x]", "Exp ~ [fn y y]", "Done ~ 0 0")
	script(t, "val x = 1 fun f x : t = x val y = 2", "Dec ~ [val:0 x = #1]", "Dec ~ [fun:10 f x : t = x]", "Dec ~ [val:26 y = #2]", "Done ~ 0 0", "Dec ~ nothing", "Done ~ 35 11")
	script(t, "val x = 1 type", "Dec ~ [val:0 x = #1]", "Dec ~ nothing", "Done ~ 10 11")
	script(t, "x A M.x M.N.A M.B", "Lower ~ x", "Upper ~ A", "Path true ~ M.x", "Path false ~ M.N.A", "Upper ~ M", "Take . ~ true", "Upper ~ B", "Done ~ 0 0")
	script(t, "M.x.y", "Path true ~ M.x", "Is . ~ true", "Done ~ 3 11")
	script(t, "A x", "Path false ~ A", "Path true ~ x", "Done ~ 0 0")
	script(t, "x A", "Path true ~ x", "Path false ~ A", "Done ~ 0 0")
}

// TestP502Tokens: Is, Take and Need know words and marks alone; Next takes nothing.
func TestP502Tokens(t *testing.T) {
	script(t, "val ( =>", "Is val ~ true", "Is ( ~ false", "Is ~ false", "Take ( ~ false", "Take val ~ true", "Is val ~ false", "Is ( ~ true", "Take ( ~ true", "Is = ~ false", "Take = ~ false", "Take > ~ false", "Is => ~ true", "Need =>", "Is => ~ false", "Done ~ 0 0")
	script(t, "x", "Is x ~ false", "Take x ~ false", "Done ~ 0 11", "Need x", "Done ~ 0 11", "Next ~ nothing")
	script(t, "A", "Is A ~ false", "Take A ~ false", "Need A", "Done ~ 0 11", "Lower ~ ")
	script(t, "12", "Is 12 ~ false", "Take 12 ~ false", "Next ~ {4 12 12 0} true", "Need 12", "Done ~ 0 11")
	script(t, " 'a", "Is 'a ~ false", "Take 'a ~ false", "Need 'a", "Done ~ 1 11")
	script(t, "( )", "Is ( ) ~ false", "Is  ( ~ false", "Need ( )", "Done ~ 0 11")
	script(t, "val", "Need fun", "Done ~ 0 11", "Is val ~ false", "Take val ~ false")
	script(t, "val", "Need val", "Need val", "Done ~ 3 11")
	script(t, " ", "Is ~ false", "Take ~ false", "Need", "Done ~ 1 11")
	r := read(t, "x")
	if _, more := r.Next(); !more || r.Lower() != "x" {
		t.Error("Next took a token")
	}
	if token, more := r.Next(); more || token != (lex.Token{}) {
		t.Errorf("Next at the end: %v, %v", token, more)
	}
}

// TestP502Names: Lower and Upper take a name of their kind, or it is ErrSyntax.
func TestP502Names(t *testing.T) {
	for _, s := range []string{"A", "1", "'a", "val", "int", "(", "_", "."} {
		script(t, " "+s, "Lower ~ nothing", "Done ~ 1 11")
		script(t, "x "+s, "Lower ~ x", "Lower ~ nothing", "Done ~ 2 11")
	}
	for _, s := range []string{"x", "1", "'a", "val", "int", "(", "_", "."} {
		script(t, " "+s, "Upper ~ nothing", "Done ~ 1 11")
		script(t, "A "+s, "Upper ~ A", "Upper ~ nothing", "Done ~ 2 11")
	}
	script(t, " ", "Lower ~ nothing", "Done ~ 1 11")
	script(t, " ", "Upper ~ nothing", "Done ~ 1 11")
}

// TestP502Paths: either sort, with the first thing that can't be, and ErrBig at the first name.
func TestP502Paths(t *testing.T) {
	for _, c := range []struct {
		s    string
		low  string
		high string
	}{
		{"x", "x", "0 11"}, {"A", "1 11", "A"}, {"M.x", "M.x", "2 11"}, {"M.A", "3 11", "M.A"}, {"M.N.x", "M.N.x", "4 11"}, {"M.N.A", "5 11", "M.N.A"},
		{"", "0 11", "0 11"}, {"M.", "2 11", "2 11"}, {"M.1", "2 11", "2 11"}, {"1", "0 11", "0 11"}, {".x", "0 11", "0 11"}, {"M..x", "2 11", "2 11"}, {"M.int", "2 11", "2 11"}, {"int", "0 11", "0 11"}, {"(x)", "0 11", "0 11"},
		{pathOf(8, "x"), pathOf(8, "x"), "14 11"}, {pathOf(8, "A"), "15 11", pathOf(8, "A")}, {pathOf(9, "x"), "0 3", "16 11"}, {pathOf(9, "A"), "0 3", "0 3"}, {" " + pathOf(9, "A") + ".", "1 3", "1 3"}, {" " + pathOf(8, "A") + ".", "17 11", "17 11"},
	} {
		for want, what := range map[string]string{c.low + "<": "Path true", c.high + ">": "Path false"} {
			want = want[:len(want)-1]
			if strings.Contains(want, " ") {
				script(t, c.s, what+" ~ nothing", "Done ~ "+want, what+" ~ nothing")
			} else {
				script(t, c.s, what+" ~ "+want, "Done ~ 0 0")
			}
		}
	}
	script(t, "(x : "+pathOf(9, "t")+") )", "Exp ~ nothing", "Done ~ 5 3")
	script(t, "val x = "+pathOf(9, "A"), "Dec ~ nothing", "Done ~ 8 3")
}

// TestP502Fail: the first failure is kept, whoever fails; OK is none.
func TestP502Fail(t *testing.T) {
	script(t, "x y", "Fail 0", "Lower ~ x", "Fail 0", "Next ~ {1 y 0 2} true", "Fail 25", "Done ~ 2 25", "Fail 11", "Done ~ 2 25", "Fail 0", "Done ~ 2 25", "Lower ~ nothing", "Next ~ nothing", "Done ~ 2 25")
	script(t, "x ", "Lower ~ x", "Fail 3", "Done ~ 2 3")
	script(t, "", "Fail 4", "Done ~ 0 4")
	script(t, "x", "Fail -7", "Done ~ 0 -7", "Lower ~ nothing")
	script(t, "x", "Fail 1000", "Done ~ 0 1000", "Fail 12", "Done ~ 0 1000")
	script(t, "( x", "Exp ~ nothing", "Done ~ 3 11", "Fail 12", "Done ~ 3 11")
	script(t, "x )", "Need (", "Fail 12", "Done ~ 0 11")
	script(t, "x )", "Lower ~ x", "Fail 12", "Need (", "Done ~ 2 12")
}

// TestP502Done: nothing is changed by asking.
func TestP502Done(t *testing.T) {
	script(t, "x y", "Done ~ 0 11", "Done ~ 0 11", "Lower ~ x", "Done ~ 2 11", "Lower ~ y", "Done ~ 0 0", "Done ~ 0 0", "Lower ~ nothing", "Done ~ 3 11", "Done ~ 3 11")
}

// TestP502Behind: behind a failure every call answers zero and takes nothing, and what is kept stays.
func TestP502Behind(t *testing.T) {
	for _, c := range []struct{ s, how, kept string }{
		{"val x = 1", "Fail 22", "0 22"}, {"x y", "Dec", "0 11"}, {"val x y", "Dec", "6 11"}, {"val x = 1", "Need fn", "0 11"}, {"val x = 1", "Lower", "0 11"}, {"x y", "Upper", "0 11"},
		{"M.A", "Path true", "3 11"}, {"M.x y", "Path false", "2 11"}, {"val M.x ( )", "Ty", "0 11"}, {"A ( x", "Pat", "5 11"}, {"f (x : 1)", "Exp", "7 11"}, {"", "Exp", "0 11"}, {pathOf(9, "x") + " y", "Exp", "0 3"},
	} {
		r := read(t, c.s)
		ask(r, c.how)
		for _, what := range slices.Concat(calls, calls) {
			want := nothing(what)
			if what == "Done" {
				want = c.kept
			}
			if got := ask(r, what); got != want {
				t.Errorf("%q, %s, then %s: %s, not %s", c.s, c.how, what, got, want)
			}
		}
		if got := ask(r, "Done"); got != c.kept {
			t.Errorf("%q, %s: %s is kept, not %s", c.s, c.how, got, c.kept)
		}
	}
}

// TestP502Nil: every call of a nil Reader.
func TestP502Nil(t *testing.T) {
	var r *parsecore.Reader
	for _, what := range calls {
		want := nothing(what)
		if what == "Done" {
			want = "0 2"
		}
		if got := ask(r, what); got != want {
			t.Errorf("%s of nil: %s, not %s", what, got, want)
		}
	}
	if r.Path(true) != nil || r.Path(false) != nil {
		t.Error("Path of nil is something")
	}
}

// TestP502Deep: a Reader takes what is nested deeper than MaxDepth.
func TestP502Deep(t *testing.T) {
	for what, s := range map[string]string{
		"Ty": nest(150, "a -> ", "a", ""), "Pat": nest(150, "A (", "x", ")"), "Exp": nest(150, "fn x => ", "x", ""), "Dec": "val x = " + nest(150, "f (", "x", ")"),
	} {
		r := read(t, s)
		if got := ask(r, what); strings.Count(got, "[") < 150 {
			t.Errorf("%s of %q: %s", what, brief(s), brief(got))
		}
		if at, e := r.Done(); at != 0 || e != api.OK {
			t.Errorf("%s of %q: %d, %v", what, brief(s), at, e)
		}
	}
}

// TestP502Memory: what a call handed out is changed, and the Reader is asked again.
func TestP502Memory(t *testing.T) {
	s := "M.N.x M.N.A M.t -> u A (B, x) val f = M.g (a, b) fun g x y = case x of A => 1 | B y => let fun f x y = x in y end end"
	r, calm := read(t, s), read(t, s)
	for _, what := range []string{"Path true", "Path false", "Ty", "Pat", "Dec", "Dec"} {
		want := ask(calm, what)
		var got any
		switch what {
		case "Path true":
			got = r.Path(true)
		case "Path false":
			got = r.Path(false)
		case "Ty":
			got = r.Ty()
		case "Pat":
			got = r.Pat()
		case "Dec":
			got = r.Dec()
		}
		told := shown(got)
		if p, ok := got.([]string); ok {
			told = strings.Join(p, ".")
		}
		if told != want {
			t.Errorf("%s: %s, not %s", what, told, want)
		}
		if lists(reflect.ValueOf(got), map[uintptr]bool{}) {
			t.Errorf("%s: two of its lists share memory", what)
		}
		spill(reflect.ValueOf(got))
		token, _ := r.Next()
		token.Text = "spilt"
	}
	if at, e := r.Done(); at != 0 || e != api.OK {
		t.Errorf("%d, %v", at, e)
	}
}

// TestP502Apart: two readers of one text share nothing.
func TestP502Apart(t *testing.T) {
	a, b := read(t, "x y"), read(t, "x y")
	a.Lower()
	a.Fail(api.ErrName)
	if got := b.Lower() + b.Lower(); got != "xy" {
		t.Errorf("%q", got)
	}
	if at, e := b.Done(); at != 0 || e != api.OK {
		t.Errorf("%d, %v", at, e)
	}
}

// model: a Reader by the chapter's words: a rule is gone along as far as the grammar can; if it can end there, it is taken.
type model struct {
	s      string
	tokens []lex.Token
	n      int
	at     int
	e      api.Errno
}

func (m *model) place() int {
	if m.n < len(m.tokens) {
		return m.tokens[m.n].At
	}
	return len(m.s)
}

func (m *model) fail(at int, e api.Errno) { m.at, m.e = at, e }

// rule: what a rule takes: the text with blanks for all that stands outside of it, so that places are the same.
func (m *model) rule(name string) (string, bool) {
	many, whole := along(name, m.tokens[m.n:])
	if at, big := bigPath(m.tokens[m.n : m.n+many]); big {
		m.fail(at, api.ErrBig)
		return "", false
	}
	from := m.place()
	m.n += many
	if !whole {
		m.fail(m.place(), api.ErrSyntax)
		return "", false
	}
	return strings.Repeat(" ", from) + m.s[from:m.place()], true
}

// ask: what a call answers.
func (m *model) ask(what string) string {
	name, arg, _ := strings.Cut(what, " ")
	if m.e != api.OK {
		if name == "Done" {
			return fmt.Sprint(m.at, " ", int(m.e))
		}
		return nothing(what)
	}
	var next lex.Token
	if m.n < len(m.tokens) {
		next = m.tokens[m.n]
	}
	is := next.Text == arg && (next.Kind == lex.Word || next.Kind == lex.Mark)
	switch name {
	case "Ty", "Pat", "Exp", "Dec":
		return m.node(what)
	case "Is":
		return fmt.Sprint(is)
	case "Take", "Need":
		if is {
			m.n++
		} else if name == "Need" {
			m.fail(m.place(), api.ErrSyntax)
		}
		if name == "Need" {
			return ""
		}
		return fmt.Sprint(is)
	case "Lower", "Upper":
		if next.Kind != map[string]int{"Lower": lex.Lower, "Upper": lex.Upper}[name] {
			m.fail(m.place(), api.ErrSyntax)
			return ""
		}
		m.n++
		return next.Text
	case "Path":
		s, ok := m.rule(map[string]string{"true": "lowpath", "false": "highpath"}[arg])
		tokens, _, _ := lex.Lex(s)
		if !ok {
			return ""
		}
		return strings.ReplaceAll(lex.Join(tokens), " ", "")
	case "Next":
		return fmt.Sprintf("%v %v", next, m.n < len(m.tokens))
	case "Fail":
		if arg != "0" {
			var e api.Errno
			fmt.Sscan(arg, (*int)(&e))
			m.fail(m.place(), e)
		}
		return ""
	}
	if m.n < len(m.tokens) {
		return fmt.Sprint(next.At, " ", int(api.ErrSyntax))
	}
	return "0 0"
}

// node: a declaration is read within a let, which moves its places by 4.
func (m *model) node(what string) string {
	s, ok := m.rule(strings.ToLower(what))
	if !ok {
		return nothing(what)
	}
	switch what {
	case "Ty", "Pat", "Exp":
		node, _, _ := call(strings.ToLower(what), s)
		return shown(node)
	}
	let, _, _ := parsecore.Exp("let " + s + " in x end")
	eachDec(reflect.ValueOf(&let), func(d *api.Dec) { d.At -= 4 })
	return showDec(let.Decs[0])
}

// TestP502Random: random calls of a Reader over random tokens, held against the model.
func TestP502Random(t *testing.T) {
	r := rand.New(rand.NewSource(502))
	for range 3000 {
		var tokens []string
		for range 1 + r.Intn(4) {
			switch r.Intn(5) {
			case 0:
				tokens = append(tokens, alphabet()[r.Intn(len(alphabet()))])
			case 1:
				w, g := writer{rand: r}, grower{r}
				d := g.dec(3)
				w.dec(&d)
				tokens = append(tokens, w.tokens...)
			default:
				_, more := grow(r, []string{"ty", "pat", "exp"}[r.Intn(3)], 1+r.Intn(3))
				tokens = append(tokens, more...)
			}
		}
		s, _ := lay(r, tokens)
		if len(tokens) > 100 || len(s) > api.MaxText {
			continue
		}
		m := model{s: s}
		m.tokens, _, _ = lex.Lex(s)
		reader := read(t, s)
		var done []string
		for range 1 + r.Intn(8) {
			what := calls[r.Intn(len(calls))]
			if m.n < len(m.tokens) && r.Intn(3) == 0 {
				what = []string{"Take ", "Need ", "Is "}[r.Intn(3)] + m.tokens[m.n].Text
			}
			done = append(done, what)
			if got, want := ask(reader, what), m.ask(what); got != want {
				t.Fatalf("%q: %q: %s, not %s", s, done, brief(got), brief(want))
			}
		}
		if got, want := ask(reader, "Done"), m.ask("Done"); got != want {
			t.Fatalf("%q: %q, Done: %s, not %s", s, done, got, want)
		}
	}
}
