package parsecore_test

import (
	"math/rand"
	"reflect"
	"slices"
	"strings"
	"testing"

	"wafer/api"
	"wafer/lex"
	"wafer/names"
	"wafer/parsecore"
)

// call: Ty, Pat or Exp by the name of its rule.
func call(rule, s string) (node any, at int, e api.Errno) {
	switch rule {
	case "ty":
		return wide(parsecore.Ty(s))
	case "pat":
		return wide(parsecore.Pat(s))
	}
	return wide(parsecore.Exp(s))
}

func wide[N any](node N, at int, e api.Errno) (any, int, api.Errno) { return node, at, e }

// zero: what call answers beside an error.
func zero(rule string) any {
	return map[string]any{"ty": api.Ty{}, "pat": api.Pat{}, "exp": api.Exp{}}[rule]
}

// brief: a text that is not too long to be told.
func brief(s string) string {
	if len(s) > 300 {
		return s[:300] + ".."
	}
	return s
}

// checkError: is that the place and the error, with no node beside it?
func checkError(t *testing.T, rule, s string, at int, e api.Errno) {
	t.Helper()
	node, gotAt, got := call(rule, s)
	if gotAt != at || got != e {
		t.Errorf("%s of %q: %d, %v, not %d, %v", rule, brief(s), gotAt, got, at, e)
	}
	if !reflect.DeepEqual(node, zero(rule)) {
		t.Errorf("%s of %q: an error beside %s", rule, brief(s), brief(shown(node)))
	}
}

// TestP501Nodes: each rule with each of its alternatives.
func TestP501Nodes(t *testing.T) {
	for _, c := range []struct{ rule, s, want string }{
		{"ty", "int", "int"}, {"ty", "bool", "bool"}, {"ty", "unit", "unit"}, {"ty", "'a", "'a"}, {"ty", "'int", "'int"},
		{"ty", "t", "t"}, {"ty", "M.t", "M.t"}, {"ty", "M.N.t", "M.N.t"}, {"ty", "M . N.t", "M.N.t"},
		{"ty", "(int)", "int"}, {"ty", "((int))", "int"}, {"ty", "(((M.t)))", "M.t"},
		{"ty", "int -> bool", "[-> int bool]"}, {"ty", "a -> b -> c", "[-> a [-> b c]]"}, {"ty", "(a -> b) -> c", "[-> [-> a b] c]"},
		{"ty", "a -> (b -> c)", "[-> a [-> b c]]"},
		{"ty", "int * bool", "[* int bool]"}, {"ty", "a * b * c", "[* [* a b] c]"}, {"ty", "a * (b * c)", "[* a [* b c]]"},
		{"ty", "(a * b) * c", "[* [* a b] c]"}, {"ty", "a * b * c * d", "[* [* [* a b] c] d]"},
		{"ty", "int * bool -> 'a", "[-> [* int bool] 'a]"}, {"ty", "a -> b * c -> d", "[-> a [-> [* b c] d]]"},
		{"ty", "a * (b -> c) * d", "[* [* a [-> b c]] d]"}, {"ty", "(a -> b) * c", "[* [-> a b] c]"},

		{"pat", "_", "_"}, {"pat", "x", "x"}, {"pat", "0", "#0"}, {"pat", "007", "#7"}, {"pat", "9223372036854775807", "#9223372036854775807"},
		{"pat", "true", "true"}, {"pat", "false", "false"}, {"pat", "()", "unit"}, {"pat", "( )", "unit"},
		{"pat", "A", "@A"}, {"pat", "M.A", "@M.A"}, {"pat", "L.M.A", "@L.M.A"},
		{"pat", "(x)", "x"}, {"pat", "((x))", "x"}, {"pat", "(())", "unit"}, {"pat", "(x, y)", "[pair x y]"}, {"pat", "((x), (y))", "[pair x y]"},
		{"pat", "((x, y))", "[pair x y]"}, {"pat", "(x, (y, z))", "[pair x [pair y z]]"}, {"pat", "((x, y), z)", "[pair [pair x y] z]"},
		{"pat", "A x", "[@A x]"}, {"pat", "A _", "[@A _]"}, {"pat", "A 1", "[@A #1]"}, {"pat", "A true", "[@A true]"}, {"pat", "A false", "[@A false]"},
		{"pat", "A ()", "[@A unit]"}, {"pat", "A (x)", "[@A x]"}, {"pat", "A B", "[@A @B]"}, {"pat", "A M.B", "[@A @M.B]"}, {"pat", "M.A N.B", "[@M.A @N.B]"},
		{"pat", "(A x)", "[@A x]"}, {"pat", "A (B y)", "[@A [@B y]]"}, {"pat", "A (B)", "[@A @B]"}, {"pat", "(A)", "@A"},
		{"pat", "Cons (x, _)", "[@Cons [pair x _]]"}, {"pat", "(A x, B)", "[pair [@A x] @B]"}, {"pat", "(A, B x)", "[pair @A [@B x]]"},

		{"exp", "0", "#0"}, {"exp", "12", "#12"}, {"exp", "0012", "#12"}, {"exp", "9223372036854775807", "#9223372036854775807"}, {"exp", "true", "true"}, {"exp", "false", "false"},
		{"exp", "x", "x"}, {"exp", "M.N.x", "M.N.x"}, {"exp", "A", "@A"}, {"exp", "M.A", "@M.A"}, {"exp", "M . A", "@M.A"},
		{"exp", "()", "unit"}, {"exp", "(x)", "x"}, {"exp", "((x))", "x"}, {"exp", "(())", "unit"}, {"exp", "(x, y)", "[pair x y]"}, {"exp", "((x, y))", "[pair x y]"},
		{"exp", "(x, (y, z))", "[pair x [pair y z]]"}, {"exp", "((x, y), z)", "[pair [pair x y] z]"},
		{"exp", "(x : t)", "[ann x t]"}, {"exp", "(x : M.t)", "[ann x M.t]"}, {"exp", "(x : a -> b * c)", "[ann x [-> a [* b c]]]"}, {"exp", "((x : t) : u)", "[ann [ann x t] u]"},
		{"exp", "(fn x => x : t)", "[ann [fn x x] t]"}, {"exp", "(fn x => x, 1)", "[pair [fn x x] #1]"}, {"exp", "(if a then b else c, 1)", "[pair [if a b c] #1]"},
		{"exp", "fn x => x", "[fn x x]"}, {"exp", "fn (x, y) => x", "[fn [pair x y] x]"}, {"exp", "fn A x => x", "[fn [@A x] x]"}, {"exp", "fn x => fn y => x", "[fn x [fn y x]]"},
		{"exp", "fn x => if a then b else c", "[fn x [if a b c]]"}, {"exp", "fn x => x = 1", "[fn x [= x #1]]"},
		{"exp", "if a then b else c", "[if a b c]"}, {"exp", "if a then b else if c then d else e", "[if a b [if c d e]]"}, {"exp", "if if a then b else c then d else e", "[if [if a b c] d e]"},
		{"exp", "if a then if b then c else d else e", "[if a [if b c d] e]"}, {"exp", "if a then b else c + 1", "[if a b [+ c #1]]"}, {"exp", "if a = b then fn x => x else fn y => y", "[if [= a b] [fn x x] [fn y y]]"},
		{"exp", "a = b", "[= a b]"}, {"exp", "a < b", "[< a b]"}, {"exp", "(a < b) < c", "[< [< a b] c]"}, {"exp", "a = (b = c)", "[= a [= b c]]"}, {"exp", "a + b < c * d", "[< [+ a b] [* c d]]"}, {"exp", "a - b = c / d", "[= [- a b] [/ c d]]"},
		{"exp", "a + b", "[+ a b]"}, {"exp", "a - b", "[- a b]"}, {"exp", "a + b - c + d", "[+ [- [+ a b] c] d]"}, {"exp", "a - (b - c)", "[- a [- b c]]"}, {"exp", "1 - 2 - 3", "[- [- #1 #2] #3]"},
		{"exp", "a * b", "[* a b]"}, {"exp", "a / b", "[/ a b]"}, {"exp", "a * b / c * d", "[* [/ [* a b] c] d]"}, {"exp", "a / (b * c)", "[/ a [* b c]]"},
		{"exp", "a + b * c", "[+ a [* b c]]"}, {"exp", "a * b + c", "[+ [* a b] c]"}, {"exp", "(a + b) * c", "[* [+ a b] c]"}, {"exp", "a / b - c / d", "[- [/ a b] [/ c d]]"},
		{"exp", "f x", "[app f x]"}, {"exp", "f g x", "[app [app f g] x]"}, {"exp", "f (g x)", "[app f [app g x]]"}, {"exp", "f x + 1", "[+ [app f x] #1]"}, {"exp", "f x * g y", "[* [app f x] [app g y]]"},
		{"exp", "f 1 true false () A M.x M.A (y)", "[app [app [app [app [app [app [app [app f #1] true] false] unit] @A] M.x] @M.A] y]"}, {"exp", "1 2", "[app #1 #2]"}, {"exp", "A x", "[app @A x]"}, {"exp", "Cons (1, M.Nil)", "[app @Cons [pair #1 @M.Nil]]"},
		{"exp", "(fn x => x) 1", "[app [fn x x] #1]"}, {"exp", "f (x : t)", "[app f [ann x t]]"}, {"exp", "f let in x end case y of z => z end", "[app [app f [let x]] [case z y z]]"},
		{"exp", "let in x end", "[let x]"}, {"exp", "let val x = 1 in x end", "[let [val:4 x = #1] x]"}, {"exp", "let val x : t = 1 in x end", "[let [val:4 x : t = #1] x]"},
		{"exp", "let fun f x = x in f end", "[let [fun:4 f x = x] f]"}, {"exp", "let fun f x y z = x in f end", "[let [fun:4 f x y z = x] f]"}, {"exp", "let fun f x y : a -> b = x in f end", "[let [fun:4 f x y : [-> a b] = x] f]"},
		{"exp", "let val x = 1 fun f y = x in f end", "[let [val:4 x = #1] [fun:14 f y = x] f]"}, {"exp", " let(**)val x = a = b val y = f x in fn z => z end", "[let [val:8 x = [= a b]] [val:22 y = [app f x]] [fn z z]]"},
		{"exp", "let val x = let val y = 1 in y end in x end", "[let [val:4 x = [let [val:16 y = #1] y]] x]"}, {"exp", "let val x = fn y => y val z = if a then b else c in x end", "[let [val:4 x = [fn y y]] [val:22 z = [if a b c]] x]"},
		{"exp", "case x of A => 1 | B y => y end", "[case @A [@B y] x #1 y]"}, {"exp", "case x of | A => 1 | B y => y end", "[case @A [@B y] x #1 y]"}, {"exp", "case x of _ => 1 end", "[case _ x #1]"}, {"exp", "case x of | _ => 1 end", "[case _ x #1]"},
		{"exp", "case fn x => x of y => fn z => z | u => if a then b else c end", "[case y u [fn x x] [fn z z] [if a b c]]"}, {"exp", "case case a of b => c end of d => case e of f => g | h => i end | j => k end", "[case d j [case b a c] [case f h e g i] k]"},
		{"exp", "case f x of (x, 1) => x + 1 end 2", "[app [case [pair x #1] [app f x] [+ x #1]] #2]"},
	} {
		node, at, e := call(c.rule, c.s)
		if got := shown(node); got != c.want || at != 0 || e != api.OK {
			t.Errorf("%s of %q: %s, %d, %v, not %s", c.rule, c.s, got, at, e, c.want)
		}
	}
}

// TestP501Examples: the chapter's, told as api tells them.
func TestP501Examples(t *testing.T) {
	x, f := api.Exp{Kind: api.EVar, Path: []string{"x"}}, api.Exp{Kind: api.EVar, Path: []string{"f"}}
	one := api.Exp{Kind: api.EInt, N: 1}
	sum := api.Exp{Kind: api.EBin, Op: api.OAdd, Kids: []api.Exp{{Kind: api.EApp, Kids: []api.Exp{f, x}}, one}}
	if got, at, e := parsecore.Exp("f x + 1"); !alike(got, sum) || at != 0 || e != api.OK {
		t.Errorf("f x + 1: %s, %d, %v", showExp(got), at, e)
	}
	pair := api.Pat{Kind: api.PPair, Kids: []api.Pat{{Kind: api.PVar, Name: "x"}, {Kind: api.PAny}}}
	cons := api.Pat{Kind: api.PCon, Path: []string{"Cons"}, Kids: []api.Pat{pair}}
	if got, at, e := parsecore.Pat("Cons (x, _)"); !alike(got, cons) || at != 0 || e != api.OK {
		t.Errorf("Cons (x, _): %s, %d, %v", showPat(got), at, e)
	}
	from := api.Ty{Kind: api.YPair, Kids: []api.Ty{{Kind: api.YCon, Path: []string{"int"}}, {Kind: api.YCon, Path: []string{"bool"}}}}
	fn := api.Ty{Kind: api.YFn, Kids: []api.Ty{from, {Kind: api.YVar, Name: "a"}}}
	if got, at, e := parsecore.Ty("int * bool -> 'a"); !alike(got, fn) || at != 0 || e != api.OK {
		t.Errorf("int * bool -> 'a: %s, %d, %v", showTy(got), at, e)
	}
	checkError(t, "exp", "a < b < c", 6, api.ErrSyntax)
	checkError(t, "pat", "x y", 2, api.ErrSyntax)
}

// TestP501Syntax: for each rule the first token that can't go on; the mark ^ in a text stands just ahead of it, or at the end.
func TestP501Syntax(t *testing.T) {
	texts := map[string][]string{
		"ty": {
			"^", "  ^", " (* *) ^", "^)", "^->", "^*", "^1", "^fn", "^_", "^=", "^;", "int ^int", "int ^'a", "int ^t", "int ^)", "int ^,", "t ^u", "t ^.u", "'a ^b", "'a ^.b", "int ^.t",
			"M^", "M ^t", "M ^)", "M ^->", "M.^", "M.^int", "M.^'a", "M.^(t)", "M.^1", "M.^.t", "M.t ^u", "M.t^.u", "M.N^", "M.N ^*",
			"int ->^", "int -> ^)", "int -> ^->", "int -> ^*", "int *^", "int * ^*", "int * ^->", "int -> bool ^bool", "int * bool ^(unit)",
			"(^", "(^)", "(int^", "(int ^,int)", "(int ^int)", "(int) ^int", "(int)^)", "(int -> ^)", "((int)^", "int ^:t", "int ^= t", "int ^:> t",
		},
		"pat": {
			"^", "^)", "^,", "^'a", "^fn", "^int", "^=>", "^=", "^-1", "_ ^_", "_ ^x", "x ^y", "x ^A", "x ^(y)", "x^.y", "1 ^2", "1 ^x", "true ^x", "() ^x", "(x) ^y", "x ^,y", "x ^)", "x ^=>",
			"A x ^y", "A B ^x", "A B ^C", "A () ^()", "A 1 ^1", "A^:t", "A ^=>", "A ^)", "(A) ^x", "(M.A) ^B", "(A x) ^y", "M.^", "M.^x", "M.^_", "M.^1", "M.^(A)", "A M.^", "A M.^x", "M.A x ^y", "A^->",
			"(^", "(^,x)", "(^=>", "(x^", "(x ^y)", "(x,^", "(x,^)", "(x, y^", "(x, y ^,z)", "(x, y ^z)", "(x ^:t)", "((x)^", "(x)^)", "(A x ^y)", "() ^)", "A (^", "A (x ^y)", "A (x,^)", "A ^fn",
		},
		"exp": {
			"^", "^)", "^=", "^<", "^+ 1", "^- 1", "^* 1", "^/ 1", "^,", "^:", "^|", "^->", "^=>", "^.", "^;", "^_", "^'a", "^int", "^then", "^of", "^in", "^end", "^val x = 1", "^fun f x = 1", "^else", "^type", "^struct",
			"x ^)", "x ^,y", "x ^:t", "x ^fn y => y", "x ^if a then b else c", "x ^_", "x ^'a", "x ^val", "x ^;", "x ^| y", "x ^=> y", "x ^-> y", "x ^end", "x^.y", "x ^.", "1 ^.", "M.x^.y", "M.^", "M.^.x", "M.^1", "M.^(x)", "M.^true", "M.^val", "A.B ^:t",
			"fn^", "fn ^=>", "fn ^fn", "fn x^", "fn x ^=", "fn x ^->", "fn x ^y => x", "fn x =>^", "fn x => ^)", "fn x => x ^=> x", "fn A x ^y => x", "fn (x ^: t) => x",
			"if^", "if ^then", "if a^", "if a ^else", "if a ^)", "if a then^", "if a then ^else", "if a then b^", "if a then b ^then", "if a then b else^", "if a then b else ^)", "if a then b else c ^else d",
			"a =^", "a = ^=", "a = b ^= c", "a = b ^< c", "a < b ^< c", "a < b ^= c", "a + b = c ^= d", "a < ^fn x => x", "a = ^if a then b else c",
			"a +^", "a + ^+ b", "a - ^- b", "a + ^fn x => x", "a + b ^fn", "a *^", "a * ^* b", "a / ^/ b", "a * ^if", "a +^)", "f x +^", "a + b * ^)",
			"(^", "(^,x)", "(^:t)", "(x^", "(x ^=> y)", "(x,^", "(x,^)", "(x, y^", "(x, y ^,z)", "(x, y ^:t)", "(x :^", "(x : ^)", "(x : t^", "(x : t ^,y)", "(x : t ^:u)", "(x : t ^= y)", "(x)^)", "(x ^;y)", "(x^:> t)", "((x)^", "(x : ^1)", "(x : M^)",
			"let^", "let ^x", "let ^end", "let ^type t = int in x end", "let ^structure M = N in x end", "let in^", "let in ^end", "let in x^", "let in x ^in", "let in x ^val", "let in x end ^end", "let in ^val x = 1", "let val x = 1^", "let val x = 1 ^end", "let val x = 1 ^; in x end",
			"let val^", "let val ^X", "let val ^= 1", "let val ^_ = 1", "let val ^1", "let val ^(x) = 1", "let val x^", "let val x ^1", "let val x ^y = 1", "let val x =^", "let val x = ^in", "let val x = ^val", "let val x :^", "let val x : ^=", "let val x : t^", "let val x : t ^in", "let val x : t ^u = 1", "let val x ^:> t = 1", "let val x ^=> 1",
			"let fun^", "let fun ^F x = 1", "let fun f^", "let fun f ^= 1", "let fun f ^: t = 1", "let fun f ^_ = 1", "let fun f ^X = 1", "let fun f ^(x) = 1", "let fun f x^", "let fun f x ^X = 1", "let fun f x ^1", "let fun f x ^(y)", "let fun f x y =^", "let fun f x : ^=", "let fun f x : t ^x = 1", "let fun f x = 1^",
			"case^", "case ^of", "case x^", "case x ^=>", "case x of^", "case x of ^end", "case x of | ^end", "case x of | ^| y => z end", "case x of y^", "case x of y ^z => 1 end", "case x of y ^= z", "case x of y ^| z", "case x of y =>^", "case x of y => ^| z", "case x of y => ^end", "case x of y => z^", "case x of y => z |^", "case x of y => z | ^end", "case x of y => z ^=> u", "case x of y => z | u ^end", "case x of y => z end ^end", "case x of y => z ^)",
		},
	}
	for rule, list := range texts {
		for _, marked := range list {
			at := strings.Index(marked, "^")
			checkError(t, rule, marked[:at]+marked[at+1:], at, api.ErrSyntax)
		}
	}
}

// TestP501Lex: what Lex tells is told ahead of all others, with its place.
func TestP501Lex(t *testing.T) {
	long := strings.Repeat("A.", 20)
	for _, c := range []struct {
		s  string
		at int
		e  api.Errno
	}{
		{"#", 0, api.ErrToken}, {") ) ? #", 4, api.ErrToken}, {"x y (* ", 4, api.ErrToken}, {") 'A", 2, api.ErrToken},
		{") " + strings.Repeat("a", 33), 2, api.ErrName}, {"= 9223372036854775808", 2, api.ErrArg},
		{long + "x 9223372036854775808", 42, api.ErrArg}, {long + "x #", 42, api.ErrToken},
		{strings.Repeat(" ", 4097), 0, api.ErrBig}, {") " + strings.Repeat("1 ", 1024), 2 + 2*1023, api.ErrBig},
		{strings.Repeat("1+", 600) + "(* ", 1024, api.ErrBig},
	} {
		for _, rule := range []string{"ty", "pat", "exp"} {
			checkError(t, rule, c.s, c.at, c.e)
		}
	}
}

// pathOf: a path of so many names.
func pathOf(n int, last string) string { return strings.Repeat("M.", n-1) + last }

// TestP501Paths: a path of MaxPath names is taken, one of more is told at its first name, if no syntax error stands ahead of that.
func TestP501Paths(t *testing.T) {
	for _, n := range []int{1, 2, 7, 8} {
		for rule, last := range map[string]string{"ty": "t", "pat": "A", "exp": "x"} {
			node, at, e := call(rule, pathOf(n, last))
			p := reflect.ValueOf(node).FieldByName("Path")
			if e != api.OK || at != 0 || p.Len() != n || p.Index(n-1).String() != last {
				t.Errorf("%s of a path of %d names: %s, %d, %v", rule, n, shown(node), at, e)
			}
		}
	}
	low, high, ends := pathOf(9, "x"), pathOf(9, "A"), pathOf(8, "A")
	for _, c := range []struct {
		rule, s string
		at      int
		e       api.Errno
	}{
		{"ty", low, 0, api.ErrBig}, {"pat", high, 0, api.ErrBig}, {"exp", low, 0, api.ErrBig}, {"exp", high, 0, api.ErrBig}, {"exp", pathOf(30, "x"), 0, api.ErrBig},
		{"ty", "int * " + low, 6, api.ErrBig}, {"pat", "A " + high, 2, api.ErrBig}, {"exp", "f  " + low, 3, api.ErrBig}, {"exp", "(x : " + low, 5, api.ErrBig}, {"exp", "fn (" + high, 4, api.ErrBig},
		{"exp", "case x of y => " + high + " end", 15, api.ErrBig}, {"exp", "let val x = " + low, 12, api.ErrBig},
		// Ahead of a syntax error, and of two paths the first.
		{"ty", low + " )", 0, api.ErrBig}, {"pat", high + " x y", 0, api.ErrBig}, {"exp", low + " )", 0, api.ErrBig}, {"exp", "f " + low + " " + high + " =>", 2, api.ErrBig}, {"exp", low + ".x", 0, api.ErrBig},
		// Behind a syntax error.
		{"ty", ") " + low, 0, api.ErrSyntax}, {"pat", "x y " + high, 2, api.ErrSyntax}, {"exp", "f => " + low, 2, api.ErrSyntax}, {"exp", "= " + low, 0, api.ErrSyntax},
		// At the place of one.
		{"ty", "int " + low, 4, api.ErrSyntax}, {"pat", "x " + high, 2, api.ErrSyntax}, {"exp", "let " + high, 4, api.ErrSyntax}, {"exp", "let val " + high, 8, api.ErrSyntax}, {"exp", "fn x " + high, 5, api.ErrSyntax}, {"pat", "A x " + high, 4, api.ErrSyntax},
		// A syntax error within: behind MaxPath names, behind one more, and where the last name is none of the right sort.
		{"ty", ends + ".)", 16, api.ErrSyntax}, {"ty", ends + "." + "int", 16, api.ErrSyntax}, {"ty", ends, 15, api.ErrSyntax}, {"ty", ends + " *", 16, api.ErrSyntax}, {"ty", high, 0, api.ErrBig}, {"ty", high + ".", 0, api.ErrBig}, {"ty", high + ".)", 0, api.ErrBig}, {"ty", high + " x", 0, api.ErrBig},
		{"pat", ends + ".", 16, api.ErrSyntax}, {"pat", ends + ".x", 16, api.ErrSyntax}, {"pat", high + ".", 0, api.ErrBig}, {"pat", high + ".x", 0, api.ErrBig}, {"pat", pathOf(8, "x"), 14, api.ErrSyntax},
		{"exp", ends + ".", 16, api.ErrSyntax}, {"exp", ends + ".1", 16, api.ErrSyntax}, {"exp", ends + "..x", 16, api.ErrSyntax}, {"exp", pathOf(8, "x") + ".x", 15, api.ErrSyntax}, {"exp", high + ".", 0, api.ErrBig}, {"exp", high + "..", 0, api.ErrBig}, {"exp", high + ".1", 0, api.ErrBig},
	} {
		checkError(t, c.rule, c.s, c.at, c.e)
	}
}

// nest: a text that is laid so many times between two others.
func nest(n int, left, inner, right string) string {
	return strings.Repeat(left, n) + inner + strings.Repeat(right, n)
}

// checkDepth: is a text taken, if its node is at most MaxDepth deep, and is it ErrDeep at 0, if it is deeper?
func checkDepth(t *testing.T, rule, s string, depth int) {
	t.Helper()
	if depth > api.MaxDepth {
		checkError(t, rule, s, 0, api.ErrDeep)
		return
	}
	if node, at, e := call(rule, s); at != 0 || e != api.OK || reflect.DeepEqual(node, zero(rule)) {
		t.Errorf("%s of %q, %d deep: %d, %v", rule, brief(s), depth, at, e)
	}
}

// TestP501Deep: a node at MaxDepth is taken, one deeper is not, by each way of nesting.
func TestP501Deep(t *testing.T) {
	for _, c := range []struct {
		rule, left, inner, right string
		step                     int
	}{
		{"ty", "int -> ", "int", "", 1}, {"ty", "", "int", " * int", 1}, {"ty", "(", "int", " -> int)", 1}, {"ty", "int * (", "int", ")", 1},
		{"pat", "(", "x", ", _)", 1}, {"pat", "(x, ", "_", ")", 1}, {"pat", "A (", "x", ")", 1},
		{"exp", "fn x => ", "x", "", 1}, {"exp", "if ", "x", " then a else b", 1}, {"exp", "if a then ", "x", " else b", 1}, {"exp", "if a then b else ", "x", "", 1},
		{"exp", "", "f", " x", 1}, {"exp", "f (", "x", ")", 1}, {"exp", "", "1", " + 1", 1}, {"exp", "", "1", " - 1", 1}, {"exp", "", "1", " * 1", 1}, {"exp", "", "1", " / 1", 1},
		{"exp", "1 + (", "1", ")", 1}, {"exp", "(", "1", " = 1)", 1}, {"exp", "1 < (", "1", ")", 1}, {"exp", "(", "x", ", 1)", 1}, {"exp", "(1, ", "x", ")", 1}, {"exp", "(", "x", " : t)", 1},
		{"exp", "let in ", "x", " end", 1}, {"exp", "let val x = ", "x", " in x end", 2}, {"exp", "let fun f x = ", "x", " in x end", 2}, {"exp", "let val x = ", "f x", " in x end", 2},
		{"exp", "case ", "x", " of y => z end", 1}, {"exp", "case x of y => ", "x", " end", 1}, {"exp", "case x of y => z | y => ", "x", " end", 1},
	} {
		own := 1 + strings.Count(c.inner, " ")
		last := (api.MaxDepth - own) / c.step
		for n := last - 1; n <= last+1; n++ {
			checkDepth(t, c.rule, nest(n, c.left, c.inner, c.right), n*c.step+own)
		}
	}
}

// TestP501DeepParts: patterns, types and declarations in an expression count too.
func TestP501DeepParts(t *testing.T) {
	for deep := 97; deep <= 101; deep++ {
		ty, pat := nest(deep-1, "a -> ", "a", ""), nest(deep-1, "(", "x", ", _)")
		checkDepth(t, "exp", "fn "+pat+" => x", deep+1)
		checkDepth(t, "exp", "(x : "+ty+")", deep+1)
		checkDepth(t, "exp", "case x of y => z | "+pat+" => x end", deep+1)
		checkDepth(t, "exp", "let val x : "+ty+" = 1 in x end", deep+2)
		checkDepth(t, "exp", "let val x = 1 fun f x : "+ty+" = 1 in x end", deep+2)
		checkDepth(t, "exp", "let val x = fn "+pat+" => 1 in x end", deep+3)
	}
}

// TestP501DeepLast: that a node is too deep is told behind all other errors.
func TestP501DeepLast(t *testing.T) {
	deep := nest(150, "fn x => ", "x", "")
	checkError(t, "exp", deep, 0, api.ErrDeep)
	checkError(t, "exp", deep+" )", len(deep)+1, api.ErrSyntax)
	checkError(t, "exp", deep+" "+pathOf(9, "x"), len(deep)+1, api.ErrBig)
	checkError(t, "exp", deep+" #", len(deep)+1, api.ErrToken)
	checkError(t, "pat", nest(150, "A (", "x", ")")+")", 601, api.ErrSyntax)
	checkError(t, "ty", nest(150, "a * ", "a", "")+" b", 602, api.ErrSyntax)
}

// TestP501Parentheses: they leave no trace, however many there are, so that those around a small node are not too deep.
func TestP501Parentheses(t *testing.T) {
	for rule, inner := range map[string]string{"ty": "M.t", "pat": "x", "exp": "x"} {
		want, _, _ := call(rule, inner)
		for _, n := range []int{1, 2, 99, 100, 101, 500, (api.MaxTokens - 3) / 2} {
			if node, at, e := call(rule, nest(n, "(", inner, ")")); !alike(node, want) || at != 0 || e != api.OK {
				t.Errorf("%s in %d parentheses: %s, %d, %v", inner, n, shown(node), at, e)
			}
			checkError(t, rule, nest(n, "(", inner, ")")+")", 2*n+len(inner), api.ErrSyntax)
			checkError(t, rule, "("+nest(n, "(", inner, ")"), 2*n+len(inner)+1, api.ErrSyntax)
		}
		checkError(t, rule, strings.Repeat("(", api.MaxTokens), api.MaxTokens, api.ErrSyntax)
		checkError(t, rule, strings.Repeat("(", api.MaxTokens+1), api.MaxTokens, api.ErrBig)
	}
}

// TestP501Tokens: a text of MaxTokens tokens is read to its end.
func TestP501Tokens(t *testing.T) {
	most := "let " + strings.Repeat("val x = 1 ", 255) + "in x "
	node, at, e := parsecore.Exp(most + "end")
	if at != 0 || e != api.OK || len(node.Decs) != 255 || node.Decs[254].At != 4+10*254 {
		t.Errorf("%d tokens: %d, %v, %s", api.MaxTokens, at, e, brief(showExp(node)))
	}
	checkError(t, "exp", most+"=", len(most)+1, api.ErrSyntax)
	checkError(t, "exp", most+")", len(most), api.ErrSyntax)
	checkError(t, "exp", most+"end x", len(most)+4, api.ErrBig)
}

// small: every text of at most so many of these tokens.
func small(tokens []string, most int) []string {
	all := []string{""}
	for first := 0; most > 0; most-- {
		last := len(all)
		for _, s := range all[first:last] {
			for _, t := range tokens {
				all = append(all, s+t+" ")
			}
		}
		first = last
	}
	return all
}

// checkPlace: has a text the place and the error that the grammar gives it?
func checkPlace(t *testing.T, rule, s string) {
	t.Helper()
	at, e := expect(rule, s)
	if e != api.OK {
		checkError(t, rule, s, at, e)
		return
	}
	if node, at, e := call(rule, s); at != 0 || e != api.OK || reflect.DeepEqual(node, zero(rule)) {
		t.Errorf("%s of %q: %s, %d, %v, not OK", rule, brief(s), shown(node), at, e)
	}
}

// TestP501Small: every text of a few tokens.
func TestP501Small(t *testing.T) {
	for _, s := range small(strings.Fields("int 'a M t . ( ) * -> ,"), 4) {
		checkPlace(t, "ty", s)
	}
	for _, s := range small(strings.Fields("x A . _ 1 true ( ) , =>"), 4) {
		checkPlace(t, "pat", s)
	}
	for _, s := range small(strings.Fields("x A . 1 ( ) , : fn => if then = + * let val in end case of |"), 3) {
		checkPlace(t, "exp", s)
	}
	for _, rule := range []string{"ty", "pat", "exp"} {
		for _, s := range small(alphabet(), 2) {
			checkPlace(t, rule, s)
		}
	}
}

// prefix: random tokens by which a rule can go on, so many as there are, at most so many.
func prefix(r *rand.Rand, rule string, most int) []string {
	c := newChart(rule)
	var l []string
	for range most {
		var can []string
		var charts []chart
		for _, text := range alphabet() {
			token, _, _ := lex.Lex(text)
			if next, ok := c.step(token[0]); ok {
				can, charts = append(can, text), append(charts, next)
			}
		}
		if can == nil {
			break
		}
		n := r.Intn(len(can))
		l, c = append(l, can[n]), charts[n]
	}
	return l
}

// TestP501Prefixes: behind a beginning that can go on, every token there is.
func TestP501Prefixes(t *testing.T) {
	r := rand.New(rand.NewSource(501))
	for i := range 300 {
		rule := []string{"ty", "pat", "exp", "exp", "exp"}[i%5]
		l := prefix(r, rule, 1+r.Intn(25))
		checkPlace(t, rule, strings.Join(l, " "))
		for _, last := range alphabet() {
			s, _ := lay(r, append(slices.Clone(l), last))
			checkPlace(t, rule, s)
		}
	}
}

// grow: a random node of a rule as its tokens.
func grow(r *rand.Rand, rule string, levels int) (any, []string) {
	w, g := writer{rand: r}, grower{r}
	switch rule {
	case "ty":
		t := g.ty(levels)
		w.ty(&t, 1)
		return &t, w.tokens
	case "pat":
		p := g.pat(levels)
		w.pat(&p, 1)
		return &p, w.tokens
	}
	e := g.exp(levels)
	w.exp(&e, 1)
	return &e, w.tokens
}

// TestP501Random: a node that is written by the grammar is read as it was, with the places of its declarations.
func TestP501Random(t *testing.T) {
	r := rand.New(rand.NewSource(1501))
	for i := range 6000 {
		rule := []string{"ty", "pat", "exp", "exp", "exp"}[i%5]
		node, tokens := grow(r, rule, 1+r.Intn(6))
		s, at := lay(r, tokens)
		if len(s) > api.MaxText || len(tokens) > api.MaxTokens {
			continue
		}
		eachDec(reflect.ValueOf(node), func(d *api.Dec) { d.At = at[d.At] })
		got, place, e := call(rule, s)
		want := reflect.ValueOf(node).Elem().Interface()
		if place != 0 || e != api.OK || !alike(got, want) {
			t.Fatalf("%s of %q: %s, %d, %v, not %s", rule, s, brief(shown(got)), place, e, brief(shown(want)))
		}
	}
}

// spoil: the tokens with one left out, put in, put for another, or with two of them changed round.
func spoil(r *rand.Rand, l []string) []string {
	l = slices.Clone(l)
	n, other := r.Intn(len(l)), alphabet()[r.Intn(len(alphabet()))]
	switch r.Intn(4) {
	case 0:
		return slices.Delete(l, n, n+1)
	case 1:
		return slices.Insert(l, n, other)
	case 2:
		l[n] = other
	default:
		m := r.Intn(len(l))
		l[n], l[m] = l[m], l[n]
	}
	return l
}

// TestP501Spoilt: texts that are right but for a token.
func TestP501Spoilt(t *testing.T) {
	r := rand.New(rand.NewSource(2501))
	for i := range 3000 {
		rule := []string{"ty", "pat", "exp", "exp", "exp"}[i%5]
		_, tokens := grow(r, rule, 1+r.Intn(4))
		if len(tokens) > 80 {
			continue
		}
		s, _ := lay(r, spoil(r, tokens))
		checkPlace(t, rule, s)
	}
}

// TestP501Bytes: whatever bytes a text has, it is read or has an error.
func TestP501Bytes(t *testing.T) {
	r := rand.New(rand.NewSource(3501))
	for range 3000 {
		b := make([]byte, r.Intn(12))
		for i := range b {
			b[i] = byte(r.Intn(256))
			if r.Intn(3) > 0 {
				b[i] = "xA1.(), =>:|+*'_\n"[r.Intn(17)]
			}
		}
		for _, rule := range []string{"ty", "pat", "exp"} {
			checkPlace(t, rule, string(b))
		}
	}
}

// TestP501Memory: what is handed out is nobody else's: written into, it changes neither another answer nor another part of its own.
func TestP501Memory(t *testing.T) {
	r := rand.New(rand.NewSource(4501))
	for i := range 400 {
		rule := []string{"ty", "pat", "exp"}[i%3]
		_, tokens := grow(r, rule, 1+r.Intn(5))
		s := strings.Join(tokens, " ")
		first, _, e := call(rule, s)
		if e != api.OK {
			continue
		}
		before := shown(first)
		second, _, _ := call(rule, s)
		if shared := lists(reflect.ValueOf(second), map[uintptr]bool{}); shared {
			t.Errorf("%s of %q: two of its lists share memory", rule, s)
		}
		spill(reflect.ValueOf(second))
		third, _, _ := call(rule, s)
		if shown(first) != before || shown(third) != before {
			t.Errorf("%s of %q: %s, then %s", rule, s, shown(first), shown(third))
		}
	}
}

// lists: do two lists of a node, spare room too, share memory?
func lists(v reflect.Value, seen map[uintptr]bool) bool {
	shared := false
	switch v.Kind() {
	case reflect.Struct:
		for i := range v.NumField() {
			shared = lists(v.Field(i), seen) || shared
		}
	case reflect.Slice:
		full := v.Slice(0, v.Cap())
		for i := range full.Len() {
			at := full.Index(i).Addr().Pointer()
			shared = shared || seen[at]
			seen[at] = true
		}
		for i := range v.Len() {
			shared = lists(v.Index(i), seen) || shared
		}
	}
	return shared
}

// spill: writes into all lists of a node, from the inside out, and into their spare room.
func spill(v reflect.Value) {
	switch v.Kind() {
	case reflect.Struct:
		for i := range v.NumField() {
			spill(v.Field(i))
		}
	case reflect.Slice:
		for i := range v.Len() {
			spill(v.Index(i))
		}
		full := v.Slice(0, v.Cap())
		for i := range full.Len() {
			full.Index(i).SetZero()
		}
	}
}

// TestP504Tokens: two texts with the same tokens and unlike blanks are read alike, but for places; wrong ones are wrong at the same token.
func TestP504Tokens(t *testing.T) {
	r := rand.New(rand.NewSource(504))
	wrong := 0
	for i := range 4000 {
		rule := []string{"ty", "pat", "exp", "exp"}[i%4]
		_, tokens := grow(r, rule, 1+r.Intn(5))
		for range r.Intn(3) {
			tokens = spoil(r, append(tokens, "x"))
		}
		a, atA := lay(r, tokens)
		b, atB := lay(r, tokens)
		if max(len(a), len(b)) > api.MaxText || len(tokens) > api.MaxTokens {
			continue
		}
		nodeA, placeA, eA := call(rule, a)
		nodeB, placeB, eB := call(rule, b)
		if eA != eB || !alike(unplaced(nodeA), unplaced(nodeB)) {
			t.Errorf("%s of %q and of %q: %v, %v", rule, a, b, eA, eB)
		}
		if eA == api.OK || eA == api.ErrDeep {
			continue
		}
		wrong++
		if n := slices.Index(atA, placeA); n < 0 || atB[n] != placeB {
			t.Errorf("%s of %q and of %q: places %d and %d", rule, a, b, placeA, placeB)
		}
	}
	if wrong < 500 {
		t.Errorf("only %d wrong texts were tried", wrong)
	}
}

// unplaced: a node without the places of its declarations.
func unplaced(node any) any {
	v := reflect.New(reflect.TypeOf(node))
	v.Elem().Set(reflect.ValueOf(node))
	eachDec(v, func(d *api.Dec) { d.At = 0 })
	return v.Elem().Interface()
}

// TestP504Texts: hand-written ones.
func TestP504Texts(t *testing.T) {
	for _, c := range []struct{ rule, a, b string }{
		{"ty", "M.N.t->'a*int", "M . N (* . *) .\nt -> 'a *\tint"}, {"pat", "A(x,_)", " A ( x\r, _ ) "}, {"exp", "f(x)+1", "(*(**)*)f (x) + 1(* *)"},
		{"exp", "M.x", "M\n.\nx"}, {"exp", "case(x)of|A=>1|B y=>y end", "case (x) of | A => 1 | B y => y end"}, {"exp", "()", "( )"}, {"exp", "(x:t)", "( x : t )"},
	} {
		a, _, eA := call(c.rule, c.a)
		b, _, eB := call(c.rule, c.b)
		if eA != api.OK || eB != api.OK || !alike(a, b) {
			t.Errorf("%q and %q: %s, %v and %s, %v", c.a, c.b, shown(a), eA, shown(b), eB)
		}
	}
	checkError(t, "exp", "let val x=1 in", 14, api.ErrSyntax)
	checkError(t, "exp", "let\n val x = 1 in (* *) ", 24, api.ErrSyntax)
	checkError(t, "exp", "a<b<c", 3, api.ErrSyntax)
	checkError(t, "exp", "a (* *) <\nb < c", 12, api.ErrSyntax)
}

// TestP501Words: a reserved word is no name, whatever stands around it.
func TestP501Words(t *testing.T) {
	for _, w := range names.Words() {
		if !slices.Contains(strings.Fields("true false"), w) {
			checkError(t, "pat", w, 0, api.ErrSyntax)
			checkError(t, "pat", "A "+w, 2, api.ErrSyntax)
		}
		if !slices.Contains(strings.Fields("int bool unit"), w) {
			checkError(t, "ty", w, 0, api.ErrSyntax)
		}
		checkError(t, "ty", "M."+w, 2, api.ErrSyntax)
		checkError(t, "exp", "M."+w, 2, api.ErrSyntax)
		checkError(t, "exp", "let val "+w+" = 1 in x end", 8, api.ErrSyntax)
		checkError(t, "exp", "let fun f "+w+" = 1 in x end", 10, api.ErrSyntax)
		if node, _, e := parsecore.Ty("'" + w); node.Kind != api.YVar || node.Name != w || e != api.OK {
			t.Errorf("'%s: %s, %v", w, showTy(node), e)
		}
	}
}
