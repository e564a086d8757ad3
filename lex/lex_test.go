package lex_test

import (
	"fmt"
	"math/big"
	"math/rand"
	"regexp"
	"slices"
	"strings"
	"testing"

	"wafer/api"
	"wafer/lex"
)

// reserved: the list of chapter 2.
const reserved = "bool case data else end false fn fun functor if in int let of sig signature struct structure then true type unit val where"

var tokenForm = regexp.MustCompile(`\A(?:([a-z][a-zA-Z0-9_]*)|([A-Z][a-zA-Z0-9_]*)|([0-9]+)|('[a-z][a-z0-9]*)|(:>|=>|->|[(),;:=*+\-/<|_.]))`)

// small: every text of at most most bytes of the alphabet.
func small(alphabet string, most int) []string {
	all := []string{""}
	for first, size := 0, 0; size < most; size++ {
		last := len(all)
		for _, s := range all[first:last] {
			for i := range len(alphabet) {
				all = append(all, s+alphabet[i:i+1])
			}
		}
		first = last
	}
	return all
}

// slowRemark: the bytes of the remark that begins a text, 0 if it does not end: each remark within it by the same rule.
func slowRemark(s string) int {
	for i := 2; i < len(s); {
		switch {
		case strings.HasPrefix(s[i:], "*)"):
			return i + 2
		case strings.HasPrefix(s[i:], "(*"):
			inner := slowRemark(s[i:])
			if inner == 0 {
				return 0
			}
			i += inner
		default:
			i++
		}
	}
	return 0
}

// slowToken: the token that begins a text, by the chapter's words.
func slowToken(s string) (lex.Token, api.Errno) {
	m := tokenForm.FindStringSubmatch(s)
	if m == nil {
		return lex.Token{}, api.ErrToken
	}
	t := lex.Token{Text: m[0]}
	t.Kind = []int{lex.Lower, lex.Upper, lex.Int, lex.Tyvar, lex.Mark}[slices.Index(m[1:], m[0])]
	if slices.Contains(strings.Fields(reserved), t.Text) {
		t.Kind = lex.Word
	}
	if t.Kind == lex.Int {
		n, _ := new(big.Int).SetString(t.Text, 10)
		if !n.IsInt64() {
			return lex.Token{}, api.ErrArg
		}
		t.N = n.Int64()
	} else if len(t.Text) > 32 {
		return lex.Token{}, api.ErrName
	}
	return t, api.OK
}

// slowLex: Lex by the chapter's words.
func slowLex(s string) ([]lex.Token, int, api.Errno) {
	if len(s) > 4096 {
		return nil, 0, api.ErrBig
	}
	var l []lex.Token
	at := 0
	for at < len(s) {
		if strings.Contains(" \t\n\r", s[at:at+1]) {
			at++
			continue
		}
		if strings.HasPrefix(s[at:], "(*") {
			n := slowRemark(s[at:])
			if n == 0 {
				return nil, at, api.ErrToken
			}
			at += n
			continue
		}
		t, e := slowToken(s[at:])
		if e == api.OK && len(l) == 1024 {
			e = api.ErrBig
		}
		if e != api.OK {
			return nil, at, e
		}
		t.At = at
		l = append(l, t)
		at += len(t.Text)
	}
	return l, 0, api.OK
}

// told: what Lex answers of a text, in one text: kinds and texts, or the error with its place.
func told(s string) string {
	l, at, e := lex.Lex(s)
	if e != api.OK {
		return fmt.Sprintf("error %d at %d, %d tokens", e, at, len(l))
	}
	var out []string
	for _, t := range l {
		kind := []string{"?", "Lower", "Upper", "Word", "Int", "Tyvar", "Mark"}[t.Kind]
		out = append(out, kind+" "+t.Text)
	}
	if at != 0 {
		out = append(out, fmt.Sprintf("place %d without an error", at))
	}
	return strings.Join(out, ", ")
}

// fails: what told says of a text with an error.
func fails(e api.Errno, at int) string {
	return fmt.Sprintf("error %d at %d, 0 tokens", e, at)
}

type sample struct{ s, want string }

func check(t *testing.T, all []sample) {
	t.Helper()
	for _, x := range all {
		if got := told(x.s); got != x.want {
			t.Errorf("Lex(%.60q): %.200s, want %.200s", x.s, got, x.want)
		}
	}
}

// hold: Lex against slowLex, with the numbers and the places.
func hold(t *testing.T, s string) {
	t.Helper()
	l, at, e := lex.Lex(s)
	want, wantAt, wantE := slowLex(s)
	if e != wantE || at != wantAt || !slices.Equal(l, want) {
		t.Errorf("Lex(%.80q) = %v, %d, %d, want %v, %d, %d", s, l, at, e, want, wantAt, wantE)
	}
}

func TestP301Examples(t *testing.T) {
	check(t, []sample{
		{"val x = F(M).y (* r (* s *) *)", "Word val, Lower x, Mark =, Upper F, Mark (, Upper M, Mark ), Mark ., Lower y"},
		{"'a->int", "Tyvar 'a, Mark ->, Word int"},
		{"x_1 :> _", "Lower x_1, Mark :>, Mark _"},
		{"(*", fails(api.ErrToken, 0)},
		{"a # b", fails(api.ErrToken, 2)},
		{"9223372036854775808", fails(api.ErrArg, 0)},
	})
}

func TestP301KindsAreTheChaptersNumbers(t *testing.T) {
	l, _, e := lex.Lex("a A if 1 'a =")
	if e != api.OK || len(l) != 6 {
		t.Fatalf("Lex: %v, %d", l, e)
	}
	for i, want := range []int{1, 2, 3, 4, 5, 6} {
		if l[i].Kind != want {
			t.Errorf("the kind of %q is %d, want %d", l[i].Text, l[i].Kind, want)
		}
	}
}

func TestP301PlacesAndNumbers(t *testing.T) {
	l, at, e := lex.Lex("\n x:>007(**)'b9 (* 3 *) val\tQ9223372036854775807 12a")
	want := []lex.Token{
		{Kind: lex.Lower, Text: "x", At: 2}, {Kind: lex.Mark, Text: ":>", At: 3}, {Kind: lex.Int, Text: "007", N: 7, At: 5},
		{Kind: lex.Tyvar, Text: "'b9", At: 12}, {Kind: lex.Word, Text: "val", At: 24},
		{Kind: lex.Upper, Text: "Q9223372036854775807", At: 28}, {Kind: lex.Int, Text: "12", N: 12, At: 49}, {Kind: lex.Lower, Text: "a", At: 51},
	}
	if e != api.OK || at != 0 || !slices.Equal(l, want) {
		t.Errorf("Lex = %v, %d, %d, want %v", l, at, e, want)
	}
}

func TestP301TextsWithoutATokenAndOfMaxText(t *testing.T) {
	full := strings.Repeat(" ", api.MaxText)
	long := strings.Repeat("a", 32) + " "
	check(t, []sample{
		{"", ""}, {" ", ""}, {"\t\n\r ", ""}, {"(**)", ""}, {full, ""},
		{full + " ", fails(api.ErrBig, 0)}, {full + "#", fails(api.ErrBig, 0)}, {"#" + full, fails(api.ErrBig, 0)},
		{full[1:] + "#", fails(api.ErrToken, api.MaxText-1)}, {full[1:] + "z", "Lower z"}, {full[1:] + "'", fails(api.ErrToken, api.MaxText-1)},
		{full[2:] + "(*", fails(api.ErrToken, api.MaxText-2)}, {full[2:] + "->", "Mark ->"}, {full[2:] + "'x", "Tyvar 'x"},
		{"(*" + full[4:] + "*)", ""}, {"(*" + full[3:] + "*)", fails(api.ErrBig, 0)}, {"(*" + full[3:] + "*", fails(api.ErrToken, 0)},
		{strings.Repeat("#", 1<<20), fails(api.ErrBig, 0)}, {strings.Repeat(long, 1<<15), fails(api.ErrBig, 0)},
	})
}

// marks: the Marks of one byte.
const marks = "(),;:=*+-/<|_."

func TestP301EveryByteAlone(t *testing.T) {
	for c := range 256 {
		b := string([]byte{byte(c)})
		want := fails(api.ErrToken, 0)
		switch {
		case strings.Contains(" \t\n\r", b):
			want = ""
		case c >= 'a' && c <= 'z':
			want = "Lower " + b
		case c >= 'A' && c <= 'Z':
			want = "Upper " + b
		case c >= '0' && c <= '9':
			want = "Int " + b
		case strings.Contains(marks, b):
			want = "Mark " + b
		}
		check(t, []sample{{b, want}})
	}
}

func TestP301EveryByteBetweenTwoTokens(t *testing.T) {
	ahead := []string{"a", "A", "if", "7", "'a", ":", "=", "-", ":>", "=>", "->", ".", "(", ")", "*", "_", "a ", "- ", "' ", "'", "(*", "(* *"}
	behind := []string{"", "b", "B", "of", "8", "'b", ">", ":", ".", "(", ")", "*", "_", " b", " >", " )", "*)"}
	for c := range 256 {
		for _, a := range ahead {
			for _, b := range behind {
				hold(t, a+string([]byte{byte(c)})+b)
			}
		}
	}
}

func TestP301WhatGoesOnWithANameATyvarAnInt(t *testing.T) {
	for c := range 256 {
		b := string([]byte{byte(c)})
		low, high, digit := c >= 'a' && c <= 'z', c >= 'A' && c <= 'Z', c >= '0' && c <= '9'
		for _, x := range []struct {
			first string
			on    bool
		}{{"q", low || high || digit || c == '_'}, {"Q", low || high || digit || c == '_'}, {"'q", low || digit}, {"5", digit}} {
			l, _, e := lex.Lex(x.first + b + " ")
			on := e == api.OK && len(l) == 1 && l[0].Text == x.first+b
			if on != x.on {
				t.Errorf("byte %d goes on with %q: %v", c, x.first, on)
			}
		}
	}
}

func TestP301Remarks(t *testing.T) {
	deep := 1000
	check(t, []sample{
		{"(**)", ""}, {"(***)", ""}, {"(****)", ""}, {"(* * ) ( *)", ""}, {"(* # ' \xff \x00 9999999999999999999 *)", ""},
		{"(*)", fails(api.ErrToken, 0)}, {"(*)*)", ""}, {"(*(*)*)", fails(api.ErrToken, 0)}, {"(*(**)*)", ""}, {"(*(*)*)*)", ""},
		{"(* (* *)", fails(api.ErrToken, 0)}, {"a (* (* *) b", fails(api.ErrToken, 2)}, {"(* *) (* (* *)", fails(api.ErrToken, 6)},
		{"(* *)(* *)", ""}, {"(**)(**)x(**)(**)", "Lower x"}, {"(* (* *) (* (* *) *) *) y", "Lower y"},
		{"(* *) *)", "Mark *, Mark )"}, {"(**)*)", "Mark *, Mark )"}, {"*)", "Mark *, Mark )"}, {"*) (*", fails(api.ErrToken, 3)},
		{"*)(* *)", "Mark *, Mark )"}, {"((* *)", "Mark ("}, {"((*", fails(api.ErrToken, 1)}, {"(*)(*", fails(api.ErrToken, 0)},
		{"( *)", "Mark (, Mark *, Mark )"}, {"( * )", "Mark (, Mark *, Mark )"}, {"(", "Mark ("}, {"*", "Mark *"}, {"(* *", fails(api.ErrToken, 0)},
		{"x(*", fails(api.ErrToken, 1)}, {"(* *)(", "Mark ("}, {"(* *)(*", fails(api.ErrToken, 5)}, {"(* *)*", "Mark *"}, {"(**))", "Mark )"},
		{"-(**)>", fails(api.ErrToken, 5)}, {"->(**)->", "Mark ->, Mark ->"}, {":(**)=", "Mark :, Mark ="}, {"*(**)*", "Mark *, Mark *"},
		{"=(**)>", fails(api.ErrToken, 5)}, {"+(*+*)+", "Mark +, Mark +"}, {"/*a*/", "Mark /, Mark *, Lower a, Mark *, Mark /"},
		{"a(**)b", "Lower a, Lower b"}, {"1(**)2", "Int 1, Int 2"}, {"'(**)a", fails(api.ErrToken, 0)}, {"'a(**)a", "Tyvar 'a, Lower a"},
		{strings.Repeat("(*", deep) + strings.Repeat("*)", deep) + "k", "Lower k"},
		{strings.Repeat("(*", deep) + strings.Repeat("*)", deep-1) + "k", fails(api.ErrToken, 0)},
		{"k" + strings.Repeat("(*", deep) + strings.Repeat("*)", deep+1), "Lower k, Mark *, Mark )"},
		{strings.Repeat("(*", 2048), fails(api.ErrToken, 0)}, {strings.Repeat("(**)", 1024), ""},
	})
	for _, s := range small("(*) a", 7) {
		hold(t, s)
	}
	for _, s := range small("(*)", 9) {
		hold(t, s)
	}
}

func TestP301Marks(t *testing.T) {
	check(t, []sample{
		{":", "Mark :"}, {":>", "Mark :>"}, {"=", "Mark ="}, {"=>", "Mark =>"}, {"-", "Mark -"}, {"->", "Mark ->"},
		{">", fails(api.ErrToken, 0)}, {": >", fails(api.ErrToken, 2)}, {":>>", fails(api.ErrToken, 2)}, {"<>", fails(api.ErrToken, 1)},
		{"<-", "Mark <, Mark -"}, {"<->", "Mark <, Mark ->"}, {"::>", "Mark :, Mark :>"}, {"==>", "Mark =, Mark =>"}, {"-->", "Mark -, Mark ->"},
		{":=>", "Mark :, Mark =>"}, {"=:>", "Mark =, Mark :>"}, {"=->", "Mark =, Mark ->"}, {"->->", "Mark ->, Mark ->"},
		{":>=>->", "Mark :>, Mark =>, Mark ->"}, {"._.", "Mark ., Mark _, Mark ."}, {"__", "Mark _, Mark _"}, {"_a", "Mark _, Lower a"}, {"_1", "Mark _, Int 1"},
		{"-1", "Mark -, Int 1"}, {"|(", "Mark |, Mark ("}, {"(),;+*-/<|", "Mark (, Mark ), Mark ,, Mark ;, Mark +, Mark *, Mark -, Mark /, Mark <, Mark |"},
		{"[", fails(api.ErrToken, 0)}, {"{", fails(api.ErrToken, 0)}, {"a\"", fails(api.ErrToken, 1)}, {"!", fails(api.ErrToken, 0)},
		{"a\x00", fails(api.ErrToken, 1)}, {"\x0b", fails(api.ErrToken, 0)}, {"a \x0c", fails(api.ErrToken, 2)}, {"\xa0", fails(api.ErrToken, 0)},
		{"\u00e9", fails(api.ErrToken, 0)}, {"a\u00e9", fails(api.ErrToken, 1)}, {"\u2028", fails(api.ErrToken, 0)}, {"\ufeffa", fails(api.ErrToken, 0)},
	})
	for _, s := range small(":=->*(a", 5) {
		hold(t, s)
	}
}

func TestP301NamesAndTyvars(t *testing.T) {
	a32 := strings.Repeat("a", 32)
	check(t, []sample{
		{"aB_9", "Lower aB_9"}, {"A_b9C", "Upper A_b9C"}, {"a.b", "Lower a, Mark ., Lower b"}, {"A.b", "Upper A, Mark ., Lower b"},
		{"'", fails(api.ErrToken, 0)}, {"x '", fails(api.ErrToken, 2)}, {"x'", fails(api.ErrToken, 1)}, {"'1", fails(api.ErrToken, 0)}, {"'A", fails(api.ErrToken, 0)},
		{"' a", fails(api.ErrToken, 0)}, {"'\na", fails(api.ErrToken, 0)}, {"'_", fails(api.ErrToken, 0)}, {"''a", fails(api.ErrToken, 0)}, {"'a'", fails(api.ErrToken, 2)},
		{"'a'b", "Tyvar 'a, Tyvar 'b"}, {"'a1b2", "Tyvar 'a1b2"}, {"'a_b", "Tyvar 'a, Mark _, Lower b"}, {"'aB", "Tyvar 'a, Upper B"}, {"'z0", "Tyvar 'z0"},
		{"a'b", "Lower a, Tyvar 'b"}, {"1'b", "Int 1, Tyvar 'b"}, {"'\xe1", fails(api.ErrToken, 0)}, {"'a\xe1", fails(api.ErrToken, 2)},
		{a32, "Lower " + a32}, {a32 + "a", fails(api.ErrName, 0)}, {" " + a32 + "_", fails(api.ErrName, 1)}, {a32 + " a", "Lower " + a32 + ", Lower a"},
		{"A" + a32[1:], "Upper A" + a32[1:]}, {"x A" + a32, fails(api.ErrName, 2)}, {"A" + a32[2:] + "_9", fails(api.ErrName, 0)},
		{"'" + a32[1:], "Tyvar '" + a32[1:]}, {"'" + a32, fails(api.ErrName, 0)}, {"b 'a" + a32, fails(api.ErrName, 2)}, {"'" + a32[1:] + "_", "Tyvar '" + a32[1:] + ", Mark _"},
		{strings.Repeat("z", 4096), fails(api.ErrName, 0)}, {"'" + strings.Repeat("z", 4095), fails(api.ErrName, 0)}, {"structure" + a32[:24], fails(api.ErrName, 0)},
		{"structure" + a32[:23], "Lower structure" + a32[:23]},
	})
	for _, s := range small("aZ0_'.", 6) {
		hold(t, s)
	}
}

func TestP301Words(t *testing.T) {
	for _, w := range strings.Fields(reserved) {
		high := strings.ToUpper(w[:1]) + w[1:]
		check(t, []sample{
			{w, "Word " + w}, {"'" + w, "Tyvar '" + w}, {w + "1", "Lower " + w + "1"}, {w + "_", "Lower " + w + "_"}, {w + "x", "Lower " + w + "x"},
			{w + "X", "Lower " + w + "X"}, {"x" + w, "Lower x" + w}, {"_" + w, "Mark _, Word " + w}, {"1" + w, "Int 1, Word " + w}, {high, "Upper " + high},
			{w + "'" + w, "Word " + w + ", Tyvar '" + w}, {w + "(" + w, "Word " + w + ", Mark (, Word " + w}, {"'" + w + "1", "Tyvar '" + w + "1"},
		})
		hold(t, w[:len(w)-1])
		hold(t, w+w)
		hold(t, strings.ToUpper(w))
	}
}

func TestP301Ints(t *testing.T) {
	noughts := strings.Repeat("0", 4000)
	for _, x := range []struct {
		s string
		n int64
	}{
		{"0", 0}, {"00", 0}, {"7", 7}, {"007", 7}, {"10", 10}, {"9223372036854775807", 1<<63 - 1}, {"9223372036854775806", 1<<63 - 2},
		{"0009223372036854775807", 1<<63 - 1}, {noughts, 0}, {noughts + "9223372036854775807", 1<<63 - 1}, {"08", 8}, {"010", 10}, {strings.Repeat("0", 4096), 0},
	} {
		l, at, e := lex.Lex(x.s)
		if e != api.OK || at != 0 || !slices.Equal(l, []lex.Token{{Kind: lex.Int, Text: x.s, N: x.n}}) {
			t.Errorf("Lex(%.40q) = %.60v, %d, %d, want N %d", x.s, l, at, e, x.n)
		}
	}
	check(t, []sample{
		{"9223372036854775808", fails(api.ErrArg, 0)}, {"x = 9223372036854775808", fails(api.ErrArg, 4)}, {"-9223372036854775808", fails(api.ErrArg, 1)},
		{noughts + "9223372036854775808", fails(api.ErrArg, 0)}, {"18446744073709551616", fails(api.ErrArg, 0)}, {"18446744073709551617", fails(api.ErrArg, 0)},
		{"9223372036854775810", fails(api.ErrArg, 0)}, {"10000000000000000000", fails(api.ErrArg, 0)}, {strings.Repeat("9", 4096), fails(api.ErrArg, 0)},
		{"1" + strings.Repeat("0", 4095), fails(api.ErrArg, 0)}, {"a9223372036854775808", "Lower a9223372036854775808"},
		{"1_000", "Int 1, Mark _, Int 000"}, {"0x1F", "Int 0, Lower x1F"}, {"1e9", "Int 1, Lower e9"}, {"1.5", "Int 1, Mark ., Int 5"}, {"0b1", "Int 0, Lower b1"},
		{"1A", "Int 1, Upper A"}, {"1'a", "Int 1, Tyvar 'a"}, {"\u0661", fails(api.ErrToken, 0)}, {"1\uff11", fails(api.ErrToken, 1)},
	})
}

func TestP301MaxTokens(t *testing.T) {
	full := strings.Repeat("a ", 1023) + "a"
	for _, s := range []string{full, full + " ", full + "\n(* b *)", " " + full, strings.Repeat("(", 1024), strings.Repeat("1.", 512), strings.Repeat(":>", 1024)} {
		l, at, e := lex.Lex(s)
		if e != api.OK || at != 0 || len(l) != 1024 {
			t.Errorf("Lex(%.20q...) has %d tokens, %d, %d", s, len(l), at, e)
		}
	}
	check(t, []sample{
		{full + " b", fails(api.ErrBig, 2048)}, {full + ".b", fails(api.ErrBig, 2047)}, {full + "   b b b", fails(api.ErrBig, 2050)}, {full + "(* r *)=", fails(api.ErrBig, 2054)},
		{strings.Repeat("(", 1025), fails(api.ErrBig, 1024)}, {strings.Repeat(":>", 1025), fails(api.ErrBig, 2048)}, {strings.Repeat("=", 4096), fails(api.ErrBig, 1024)},
		{strings.Repeat("a ", 1025), fails(api.ErrBig, 2048)}, {full + " 1", fails(api.ErrBig, 2048)}, {full + " 'a", fails(api.ErrBig, 2048)}, {full + " if", fails(api.ErrBig, 2048)},
		{full + " #", fails(api.ErrToken, 2048)}, {full + " '", fails(api.ErrToken, 2048)}, {full + " (*", fails(api.ErrToken, 2048)},
		{full + " " + strings.Repeat("b", 33), fails(api.ErrName, 2048)}, {full + " 9223372036854775808", fails(api.ErrArg, 2048)},
		{full + " b #", fails(api.ErrBig, 2048)}, {full + " b (*", fails(api.ErrBig, 2048)}, {full + "# b", fails(api.ErrToken, 2047)},
		{"# " + full + " b", fails(api.ErrToken, 0)}, {full + " b " + strings.Repeat("b", 33), fails(api.ErrBig, 2048)},
		{strings.Repeat("(", 1024) + "(* ( ( ( *)", strings.TrimSuffix(strings.Repeat("Mark (, ", 1024), ", ")},
	})
}

func TestP301TwoErrors(t *testing.T) {
	wrong := []struct {
		s string
		e api.Errno
	}{
		{"#", api.ErrToken}, {"'", api.ErrToken}, {"' a", api.ErrToken}, {">", api.ErrToken}, {"\xff", api.ErrToken},
		{strings.Repeat("b", 33), api.ErrName}, {strings.Repeat("B", 33), api.ErrName}, {"'" + strings.Repeat("b", 32), api.ErrName},
		{"9223372036854775808", api.ErrArg}, {strings.Repeat("8", 90), api.ErrArg},
	}
	for _, x := range wrong {
		for _, y := range wrong {
			check(t, []sample{{"a " + x.s + " " + y.s, fails(x.e, 2)}, {"(* " + x.s + " *) " + y.s, fails(y.e, len(x.s)+7)}})
		}
		check(t, []sample{{"a " + x.s + " (*", fails(x.e, 2)}, {"a (* " + x.s, fails(api.ErrToken, 2)}, {"(**)(* (**) " + x.s, fails(api.ErrToken, 4)}})
		check(t, []sample{{x.s + strings.Repeat(" a", 1100), fails(x.e, 0)}, {strings.Repeat("a ", 1100) + x.s, fails(api.ErrBig, 2048)}})
		check(t, []sample{{x.s + strings.Repeat(" ", 4096), fails(api.ErrBig, 0)}})
	}
}

// pieces: what texts are made of by chance, right and wrong.
func pieces() []string {
	all := append(strings.Fields(reserved), strings.Split(marks, "")...)
	all = append(all, ":>", "=>", "->", ">", "'", "'a", "'b1", "x", "y_2", "Z", "Mod", "0", "12", "9223372036854775807", "9223372036854775808")
	all = append(all, "(*", "*)", "(* r *)", "(**)", "#", "\xff", " ", "\t", "\n", "\r", "", strings.Repeat("c", 32), strings.Repeat("c", 33))
	return all
}

func TestP301HeldAgainstTheChaptersWords(t *testing.T) {
	chance := rand.New(rand.NewSource(3))
	all := pieces()
	for range 20000 {
		var b strings.Builder
		for range chance.Intn(14) {
			b.WriteString(all[chance.Intn(len(all))])
			b.WriteString([]string{"", " "}[chance.Intn(2)])
		}
		hold(t, b.String())
	}
}

func TestP302Join(t *testing.T) {
	for _, x := range []struct {
		l    []lex.Token
		want string
	}{
		{nil, ""}, {[]lex.Token{}, ""}, {[]lex.Token{{Kind: lex.Lower, Text: "a"}}, "a"}, {[]lex.Token{{Text: "a"}, {Text: "b"}}, "a b"},
		{[]lex.Token{{Text: "(", At: 9}, {Text: "*", At: -1}, {Text: ")"}}, "( * )"}, {[]lex.Token{{Text: ""}}, ""}, {[]lex.Token{{}, {}, {}}, "  "},
		{[]lex.Token{{Kind: lex.Int, Text: "007", N: 7}, {Kind: lex.Mark, Text: "->"}}, "007 ->"}, {[]lex.Token{{Kind: -5, Text: "\xff\n", N: -3}, {Text: "#"}}, "\xff\n #"},
	} {
		if got := lex.Join(x.l); got != x.want {
			t.Errorf("Join(%v) = %q, want %q", x.l, got, x.want)
		}
	}
	l, _, _ := lex.Lex("val x = F(M).y (* r (* s *) *)")
	if got := lex.Join(l); got != "val x = F ( M ) . y" {
		t.Errorf("Join = %q", got)
	}
}

func TestP302Same(t *testing.T) {
	base := []lex.Token{{Kind: lex.Lower, Text: "a", At: 0}, {Kind: lex.Int, Text: "07", N: 7, At: 2}, {Kind: lex.Mark, Text: "->", At: 5}}
	if !lex.Same(base, slices.Clone(base)) || !lex.Same(nil, nil) || !lex.Same(nil, []lex.Token{}) || !lex.Same([]lex.Token{}, nil) {
		t.Error("Same of the same lists is false")
	}
	for i := range base {
		for what, change := range map[string]func(*lex.Token){
			"kind": func(x *lex.Token) { x.Kind++ }, "text": func(x *lex.Token) { x.Text += "0" }, "number": func(x *lex.Token) { x.N = -x.N - 1 }, "place": func(x *lex.Token) { x.At = -x.At - 1 },
		} {
			other := slices.Clone(base)
			change(&other[i])
			if want := what == "place"; lex.Same(base, other) != want || lex.Same(other, base) != want {
				t.Errorf("Same of lists that differ in the %s of token %d is %v", what, i, !want)
			}
		}
		shorter := slices.Delete(slices.Clone(base), i, i+1)
		if lex.Same(base, shorter) || lex.Same(shorter, base) {
			t.Errorf("Same of a list and one without its token %d", i)
		}
	}
	if lex.Same(base, base[:2]) || lex.Same(base[:2], base) || lex.Same(base, nil) || lex.Same(nil, base) || lex.Same(nil, []lex.Token{{}}) {
		t.Error("Same of lists of different lengths")
	}
	if swapped := []lex.Token{base[1], base[0], base[2]}; lex.Same(base, swapped) {
		t.Error("Same of lists in another order")
	}
}

func TestP302ListsAreLeftAlone(t *testing.T) {
	full := make([]lex.Token, 4)
	full[0], full[1], full[2], full[3] = lex.Token{Kind: lex.Lower, Text: "b", At: 7}, lex.Token{Kind: lex.Lower, Text: "a", At: 3}, lex.Token{Text: "spare"}, lex.Token{Text: "room"}
	was := slices.Clone(full)
	lex.Join(full[:2])
	lex.Same(full[:2], full[:2])
	lex.Same(full[:2], full[:1])
	if !slices.Equal(full, was) {
		t.Errorf("a list that was handed in is %v, was %v", full, was)
	}
}

func TestP301TokensAreNewMemory(t *testing.T) {
	s := "val x = 1"
	a, _, _ := lex.Lex(s)
	b, _, _ := lex.Lex(s)
	a = append(a[:0], lex.Token{}, lex.Token{}, lex.Token{}, lex.Token{})
	c, _, _ := lex.Lex(s)
	if !lex.Same(b, c) || lex.Join(b) != s || lex.Join(a) != "   " {
		t.Errorf("lists of two calls share memory: %v, %v", b, c)
	}
}

func TestP303Back(t *testing.T) {
	chance := rand.New(rand.NewSource(30))
	texts := append(small("(*)-> a", 5), small("'a_1.:", 5)...)
	texts = append(texts, strings.Repeat("a ", 1024), strings.Repeat("(", 1024), strings.Repeat(":>", 1024), "'"+strings.Repeat("a", 31)+"_", "val x = F(M).y (* r (* s *) *)")
	all := pieces()
	for range 5000 {
		s := ""
		for range chance.Intn(9) {
			s += all[chance.Intn(len(all))]
		}
		texts = append(texts, s)
	}
	none := 0
	for _, s := range texts {
		l, _, e := lex.Lex(s)
		if e != api.OK {
			none++
			continue
		}
		joined := lex.Join(l)
		back, at, e := lex.Lex(joined)
		if e != api.OK || at != 0 || !lex.Same(l, back) || lex.Join(back) != joined {
			t.Errorf("Lex(%q) of %q = %v, %d, %d, want %v", joined, s, back, at, e, l)
		}
	}
	if none > len(texts)*9/10 {
		t.Errorf("%d of %d texts have no tokens", none, len(texts))
	}
}

// TestP303JoinedTooLong: blanks between tokens may be too many bytes: the bound that P303 names.
func TestP303JoinedTooLong(t *testing.T) {
	for _, x := range []struct {
		last string
		size int
		want api.Errno
	}{{"abcdef.", api.MaxText, api.OK}, {"abcdefg.", api.MaxText + 1, api.ErrBig}} {
		l, _, e := lex.Lex(strings.Repeat("abcde.", 511) + x.last)
		joined := lex.Join(l)
		if e != api.OK || len(joined) != x.size {
			t.Errorf("Join has %d bytes, %d, want %d", len(joined), e, x.size)
		}
		back, at, e := lex.Lex(joined)
		if e != x.want || at != 0 || lex.Same(back, l) != (x.want == api.OK) {
			t.Errorf("Lex of %d bytes joined: %d tokens, %d, %d", len(joined), len(back), at, e)
		}
	}
}

func TestP304Blanks(t *testing.T) {
	between := []string{" ", "\t", "\n", "\r", "\r\n", "  ", " \t\n\r ", "(**)", "(***)", "(* r *)", "(*(**)*)", "(*)*)", "(**)(**)", " (* ' # \xff\x00 *) ", "\n(* (* a *) b *)\t(* ->*)"}
	tokens := []string{"a", "Bc", "val", "int", "0", "9223372036854775807", "'a", "'b2"}
	tokens = append(append(tokens, strings.Split(marks, "")...), ":>", "=>", "->")
	for _, x := range tokens {
		for _, y := range tokens {
			want, _, e := lex.Lex(x + " " + y)
			if e != api.OK || len(want) != 2 || want[0].Text != x || want[1].Text != y {
				t.Fatalf("Lex(%q) = %v, %d", x+" "+y, want, e)
			}
			for _, b := range between {
				for _, s := range []string{x + b + y, b + x + " " + y, x + " " + y + b, b + x + b + y + b} {
					got, at, e := lex.Lex(s)
					if e != api.OK || at != 0 || !lex.Same(got, want) {
						t.Errorf("Lex(%q) = %v, %d, %d, want %v", s, got, at, e, want)
					}
				}
			}
		}
	}
}

// TestP304BlanksInWholeTexts: between tokens that touch as between tokens that do not.
func TestP304BlanksInWholeTexts(t *testing.T) {
	chance := rand.New(rand.NewSource(304))
	between := []string{"", "", " ", "\t", "\n", "\r", "(**)", "(* r *)", "(* (* *) *)"}
	for _, s := range []string{"val x = F(M).y (* r (* s *) *)", "'a->int*bool", "fn(x,_)=>x.y:>z", "if a<b then(c)else d", "((*a*)*)", "a1'b_C'd9(1)--> x"} {
		l, _, e := lex.Lex(s)
		if e != api.OK {
			t.Fatalf("Lex(%q): %d", s, e)
		}
		for range 300 {
			at, laid := 0, ""
			for _, x := range l {
				laid += s[at:x.At] + between[chance.Intn(len(between))] + x.Text + between[chance.Intn(len(between))]
				at = x.At + len(x.Text)
			}
			laid += s[at:]
			if got, _, e := lex.Lex(laid); e != api.OK || !lex.Same(got, l) {
				t.Errorf("Lex(%q) = %v, %d, want %v", laid, got, e, l)
			}
		}
	}
}
