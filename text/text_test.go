package text_test

import (
	"math"
	"slices"
	"strings"
	"testing"

	"wafer/api"
	"wafer/text"
)

// small: every text of at most most bytes of the alphabet.
func small(alphabet string, most int) []string {
	all := []string{""}
	for first, size := 0, 0; size < most; size++ {
		last := len(all)
		for _, s := range all[first:last] {
			for i := range len(alphabet) {
				all = append(all, s+alphabet[i:i+1])
			}
		}
		first = last
	}
	return all
}

// samples: every small text, and texts with bytes that could be taken for more or for less than bytes.
func samples() []string {
	return append(small("a\n", 7),
		"val x = 1\nval y = x + 1\n",
		"a\r\nb\r\n",
		"tab\there\n\x00\n",
		"\xe4\xb8\xad\n\xc3\xa9\xff\n\x80",
		"\u2028\u0085\v\f\n",
		strings.Repeat("long line ", 500)+"\n"+strings.Repeat("\n", 500),
	)
}

// odd: numbers at the ends of int's range and around 0 and n.
func odd(n int) []int {
	return []int{
		math.MinInt, math.MinInt + 1, math.MinInt32, -2, -1, 0, 1,
		n - 1, n, n + 1, n + 2,
		math.MaxInt32, math.MaxInt - n, math.MaxInt - 1, math.MaxInt,
	}
}

// slowWhere counts byte by byte.
func slowWhere(s string, at int) (int, int) {
	if at < 0 {
		at = 0
	}
	if at > len(s) {
		at = len(s)
	}
	line, col := 0, 0
	for i := 0; i < at; i++ {
		if s[i] == 10 {
			line, col = line+1, 0
		} else {
			col++
		}
	}
	return line, col
}

func wantLines(t *testing.T, s string, want ...string) {
	t.Helper()
	if got := text.Lines(s); !slices.Equal(got, want) {
		t.Errorf("Lines(%q) = %q, want %q", s, got, want)
	}
}

func TestP101Lines(t *testing.T) {
	wantLines(t, "", "")
	wantLines(t, "\n", "", "")
	wantLines(t, "\n\n", "", "", "")
	wantLines(t, "a", "a")
	wantLines(t, "a\n", "a", "")
	wantLines(t, "\na", "", "a")
	wantLines(t, "ab\nc", "ab", "c")
	wantLines(t, "ab\n\nc\n", "ab", "", "c", "")
	wantLines(t, " a \n b ", " a ", " b ")
}

func TestP101OnlyByte10EndsALine(t *testing.T) {
	wantLines(t, "a\r\nb", "a\r", "b")
	wantLines(t, "a\rb", "a\rb")
	wantLines(t, "a\vb\fc\x00d", "a\vb\fc\x00d")
	wantLines(t, "\u2028\u0085\n\xff\n\x8a", "\u2028\u0085", "\xff", "\x8a")
}

func TestP101LinesAreNewMemory(t *testing.T) {
	s := "a\nb\nc"
	first := text.Lines(s)
	spare := first[:cap(first)]
	for i := range spare {
		spare[i] = "written"
	}
	wantLines(t, s, "a", "b", "c")
}

func wantWhere(t *testing.T, s string, at, line, col int) {
	t.Helper()
	if l, c := text.Where(s, at); l != line || c != col {
		t.Errorf("Where(%q, %d) = %d, %d, want %d, %d", s, at, l, c, line, col)
	}
}

func TestP102Where(t *testing.T) {
	wantWhere(t, "ab\nc", 0, 0, 0)
	wantWhere(t, "ab\nc", 1, 0, 1)
	wantWhere(t, "ab\nc", 2, 0, 2)
	wantWhere(t, "ab\nc", 3, 1, 0)
	wantWhere(t, "ab\nc", 4, 1, 1)
	wantWhere(t, "ab\n\nc", 3, 1, 0)
	wantWhere(t, "ab\n\nc", 4, 2, 0)
	wantWhere(t, "\xc3\xa9x", 2, 0, 2)
}

func TestP102WhereOfAnEmptyTextAndBehindALastByte10(t *testing.T) {
	wantWhere(t, "", 0, 0, 0)
	wantWhere(t, "a\n", 1, 0, 1)
	wantWhere(t, "a\n", 2, 1, 0)
	wantWhere(t, "\n", 0, 0, 0)
	wantWhere(t, "\n", 1, 1, 0)
}

func TestP102WherePlacesOutsideTheText(t *testing.T) {
	for _, at := range []int{-1, -2, math.MinInt32, math.MinInt} {
		wantWhere(t, "ab\nc", at, 0, 0)
		wantWhere(t, "\na", at, 0, 0)
		wantWhere(t, "", at, 0, 0)
	}
	for _, at := range []int{5, 99, math.MaxInt32, math.MaxInt} {
		wantWhere(t, "ab\nc", at, 1, 1)
		wantWhere(t, "a\n", at, 1, 0)
		wantWhere(t, "", at, 0, 0)
	}
}

func TestP102WhereHeldAgainstCounting(t *testing.T) {
	for _, s := range samples() {
		for at := -2; at <= len(s)+2; at++ {
			line, col := slowWhere(s, at)
			wantWhere(t, s, at, line, col)
		}
		for _, at := range odd(len(s)) {
			line, col := slowWhere(s, at)
			wantWhere(t, s, at, line, col)
		}
	}
}

func wantAt(t *testing.T, s string, line, col, at int) {
	t.Helper()
	if got, e := text.At(s, line, col); got != at || e != api.OK {
		t.Errorf("At(%q, %d, %d) = %d, %d, want %d, 0", s, line, col, got, int(e), at)
	}
}

func wantNoPlace(t *testing.T, s string, line, col int) {
	t.Helper()
	if got, e := text.At(s, line, col); got != 0 || e != api.ErrArg {
		t.Errorf("At(%q, %d, %d) = %d, %d, want 0, ErrArg", s, line, col, got, int(e))
	}
}

func TestP102At(t *testing.T) {
	wantAt(t, "ab\nc", 0, 0, 0)
	wantAt(t, "ab\nc", 0, 1, 1)
	wantAt(t, "ab\nc", 0, 2, 2)
	wantAt(t, "ab\nc", 1, 0, 3)
	wantAt(t, "ab\nc", 1, 1, 4)
	wantAt(t, "", 0, 0, 0)
	wantAt(t, "a\n", 1, 0, 2)
	wantAt(t, "\n\n", 1, 0, 1)
}

func TestP102AtWithoutSuchAPlace(t *testing.T) {
	wantNoPlace(t, "ab\nc", 0, 3)
	wantNoPlace(t, "ab\nc", 1, 2)
	wantNoPlace(t, "ab\nc", 0, -1)
	wantNoPlace(t, "ab\nc", 1, -1)
	wantNoPlace(t, "ab\nc", 1, -3)
	wantNoPlace(t, "ab\nc", 2, 0)
	wantNoPlace(t, "ab\nc", -1, 0)
	wantNoPlace(t, "ab\nc", -1, 4)
	wantNoPlace(t, "a\n", 1, 1)
	wantNoPlace(t, "a\n", 2, 0)
	wantNoPlace(t, "", 0, 1)
	wantNoPlace(t, "", 1, 0)
	wantNoPlace(t, "\n\n", 1, 1)
}

func TestP102AtNumbersOfTheWholeRange(t *testing.T) {
	far := []int{math.MinInt, math.MinInt + 1, math.MinInt32, math.MaxInt32, math.MaxInt - 1, math.MaxInt}
	for _, s := range []string{"", "\n", "ab\nc", "ab\ncd\n"} {
		for _, a := range far {
			wantNoPlace(t, s, 0, a)
			wantNoPlace(t, s, 1, a)
			wantNoPlace(t, s, a, 0)
			wantNoPlace(t, s, a, 1)
			for _, b := range far {
				wantNoPlace(t, s, a, b)
			}
		}
	}
}

func TestP102AtHeldAgainstLines(t *testing.T) {
	for _, s := range small("a\n", 7) {
		lines := strings.Split(s, "\n")
		begin := 0
		for line := -2; line < len(lines)+2; line++ {
			there := line >= 0 && line < len(lines)
			for col := -2; col <= len(s)+2; col++ {
				if there && col >= 0 && col <= len(lines[line]) {
					wantAt(t, s, line, col, begin+col)
				} else {
					wantNoPlace(t, s, line, col)
				}
			}
			if there {
				begin += len(lines[line]) + 1
			}
		}
	}
}

func wantSpan(t *testing.T, s string, from, to int, want string) {
	t.Helper()
	if got := text.Span(s, from, to); got != want {
		t.Errorf("Span(%q, %d, %d) = %q, want %q", s, from, to, got, want)
	}
}

func TestP103Span(t *testing.T) {
	wantSpan(t, "abc", 1, 2, "b")
	wantSpan(t, "abc", 0, 3, "abc")
	wantSpan(t, "abc", 0, 1, "a")
	wantSpan(t, "abc", 2, 3, "c")
	wantSpan(t, "ab\nc", 1, 4, "b\nc")
	wantSpan(t, "\xc3\xa9", 1, 2, "\xa9")
}

func TestP103SpanOfNothing(t *testing.T) {
	wantSpan(t, "abc", 1, 1, "")
	wantSpan(t, "abc", 2, 1, "")
	wantSpan(t, "abc", 3, 0, "")
	wantSpan(t, "abc", 3, 3, "")
	wantSpan(t, "abc", 3, 4, "")
	wantSpan(t, "abc", -2, -1, "")
	wantSpan(t, "abc", -1, 0, "")
	wantSpan(t, "", 0, 1, "")
	wantSpan(t, "", -1, 1, "")
}

func TestP103SpanPlacesOutsideTheText(t *testing.T) {
	wantSpan(t, "abc", -1, 2, "ab")
	wantSpan(t, "abc", 1, 99, "bc")
	wantSpan(t, "abc", math.MinInt, math.MaxInt, "abc")
	wantSpan(t, "abc", math.MaxInt, math.MinInt, "")
	wantSpan(t, "abc", math.MinInt, math.MinInt, "")
	wantSpan(t, "abc", math.MaxInt, math.MaxInt, "")
	wantSpan(t, "abc", 0, math.MinInt, "")
	wantSpan(t, "abc", math.MaxInt, 3, "")
}

func TestP103SpanHeldAgainstTakingBytes(t *testing.T) {
	for _, s := range small("ab\n", 4) {
		for from := -2; from <= len(s)+2; from++ {
			for to := -2; to <= len(s)+2; to++ {
				var want []byte
				for i := range len(s) {
					if i >= from && i < to {
						want = append(want, s[i])
					}
				}
				wantSpan(t, s, from, to, string(want))
			}
		}
	}
}

func wantCaret(t *testing.T, s string, at int, want string) {
	t.Helper()
	if got := text.Caret(s, at); got != want {
		t.Errorf("Caret(%q, %d) = %q, want %q", s, at, got, want)
	}
}

func TestP103Caret(t *testing.T) {
	wantCaret(t, "ab\ncd", 4, "cd\n ^")
	wantCaret(t, "ab\ncd", 0, "ab\n^")
	wantCaret(t, "ab\ncd", 1, "ab\n ^")
	wantCaret(t, "ab\ncd", 2, "ab\n  ^")
	wantCaret(t, "ab\ncd", 3, "cd\n^")
	wantCaret(t, "ab\ncd", 5, "cd\n  ^")
	wantCaret(t, "a\n\nb", 2, "\n^")
}

func TestP103CaretOfAnEmptyTextAndBehindALastByte10(t *testing.T) {
	wantCaret(t, "", 0, "\n^")
	wantCaret(t, "a\n", 2, "\n^")
	wantCaret(t, "a\n", 1, "a\n ^")
}

func TestP103CaretCountsBytesAndWritesBlanks(t *testing.T) {
	wantCaret(t, "\tx", 1, "\tx\n ^")
	wantCaret(t, "\xc3\xa9x", 2, "\xc3\xa9x\n  ^")
	wantCaret(t, "a\r\nb", 2, "a\r\n  ^")
}

func TestP103CaretPlacesOutsideTheText(t *testing.T) {
	for _, at := range []int{-1, math.MinInt32, math.MinInt} {
		wantCaret(t, "ab\ncd", at, "ab\n^")
		wantCaret(t, "", at, "\n^")
	}
	for _, at := range []int{6, math.MaxInt32, math.MaxInt} {
		wantCaret(t, "ab\ncd", at, "cd\n  ^")
		wantCaret(t, "ab\n", at, "\n^")
		wantCaret(t, "", at, "\n^")
	}
}

func TestP103CaretHeldAgainstCounting(t *testing.T) {
	for _, s := range samples() {
		lines := strings.Split(s, "\n")
		for _, at := range append(odd(len(s)), 2, 3, 4, 5, 6) {
			line, col := slowWhere(s, at)
			wantCaret(t, s, at, lines[line]+"\n"+strings.Repeat(" ", col)+"^")
		}
	}
}

func wantSame(t *testing.T, a, b string, want int) {
	t.Helper()
	if got := text.Same(a, b); got != want {
		t.Errorf("Same(%q, %q) = %d, want %d", a, b, got, want)
	}
	if got := text.Same(b, a); got != want {
		t.Errorf("Same(%q, %q) = %d, want %d", b, a, got, want)
	}
}

func TestP104Same(t *testing.T) {
	wantSame(t, "abc", "abd", 2)
	wantSame(t, "abc", "abc", 3)
	wantSame(t, "abc", "ab", 2)
	wantSame(t, "abc", "xbc", 0)
	wantSame(t, "abcx", "abdx", 2)
	wantSame(t, "", "", 0)
	wantSame(t, "", "a", 0)
	wantSame(t, "a\nb", "a\nc", 2)
	wantSame(t, "a\n", "a", 1)
	wantSame(t, "\xc3\xa9", "\xc3\xa8", 1)
	wantSame(t, "\xff", "\xfe", 0)
	wantSame(t, "\x00", "", 0)
}

func TestP104SameHeldAgainstPrefixes(t *testing.T) {
	all := small("ab\n", 4)
	for _, a := range all {
		for _, b := range all {
			want := 0
			for n := 1; n <= len(a) && strings.HasPrefix(b, a[:n]); n++ {
				want = n
			}
			wantSame(t, a, b, want)
		}
	}
}

func TestP105AtOfWhereIsThePlace(t *testing.T) {
	for _, s := range samples() {
		for at := 0; at <= len(s); at++ {
			line, col := text.Where(s, at)
			wantAt(t, s, line, col, at)
		}
		for _, at := range odd(len(s)) {
			line, col := text.Where(s, at)
			wantAt(t, s, line, col, min(max(at, 0), len(s)))
		}
	}
}

func TestP105LinesJoinedAreTheText(t *testing.T) {
	for _, s := range samples() {
		lines := text.Lines(s)
		if got := strings.Join(lines, "\n"); got != s {
			t.Errorf("Lines(%q), joined: %q", s, got)
		}
		// With the joined text alone, one line with bytes 10 in it would do.
		if got, want := len(lines), strings.Count(s, "\n")+1; got != want {
			t.Errorf("Lines(%q): %d lines, want %d", s, got, want)
		}
	}
}

func TestP105SpansJoinedAreTheText(t *testing.T) {
	for _, s := range samples() {
		for _, at := range append(odd(len(s)), 2, 3, 4, 5, 6) {
			if got := text.Span(s, 0, at) + text.Span(s, at, len(s)); got != s {
				t.Errorf("spans of %q at %d, joined: %q", s, at, got)
			}
			if got := text.Span(s, 0, at) + text.Span(s, at, math.MaxInt); got != s {
				t.Errorf("spans of %q at %d, the last without an end, joined: %q", s, at, got)
			}
		}
	}
}
