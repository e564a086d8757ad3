// Package text is layer 1: source texts. See shared/doc/01-text.md.
package text

import (
	"iter"
	"strings"

	"wafer/api"
)

// Lines: the lines of a text, each without its byte 10.
func Lines(s string) []string {
	var lines []string
	for from, to := range bounds(s) {
		lines = append(lines, s[from:to])
	}
	return lines
}

// Where: the line in which a place stands, and how many bytes stand ahead of it there.
func Where(s string, at int) (int, int) {
	at = within(s, at)
	line, from, _ := lineOf(s, at)
	return line, at - from
}

// At: the place with that line and column; ErrArg if there is none.
func At(s string, line, col int) (int, api.Errno) {
	if line < 0 || col < 0 {
		return 0, api.ErrArg
	}
	for from, to := range bounds(s) {
		if line > 0 {
			line--
			continue
		}
		// The column is held against the line's length, since from + col could leave int's range.
		if col > to-from {
			break
		}
		return from + col, api.OK
	}
	return 0, api.ErrArg
}

// Span: the bytes from one place to ahead of another.
func Span(s string, from, to int) string {
	from, to = within(s, from), within(s, to)
	if to <= from {
		return ""
	}
	return s[from:to]
}

// Caret: the line in which a place stands, and below it a mark under the place.
func Caret(s string, at int) string {
	at = within(s, at)
	_, from, to := lineOf(s, at)
	return s[from:to] + "\n" + strings.Repeat(" ", at-from) + "^"
}

// Same: how many bytes both texts have in common from their beginnings on.
func Same(a, b string) int {
	n := 0
	for n < len(a) && n < len(b) && a[n] == b[n] {
		n++
	}
	return n
}

// bounds tells of each line where it begins, and where it ends ahead of its byte 10.
func bounds(s string) iter.Seq2[int, int] {
	return func(yield func(int, int) bool) {
		from := 0
		for {
			n := strings.IndexByte(s[from:], '\n')
			if n < 0 {
				yield(from, len(s))
				return
			}
			if !yield(from, from+n) {
				return
			}
			from += n + 1
		}
	}
}

// lineOf: the number and the bounds of the line in which a place of the text stands.
func lineOf(s string, at int) (line, from, to int) {
	for from, to = range bounds(s) {
		// A byte 10 belongs to the line that it ends, so the place at a line's end counts too.
		if at <= to {
			break
		}
		line++
	}
	return line, from, to
}

// within: the place as a number from 0 to the text's length.
func within(s string, at int) int {
	return min(max(at, 0), len(s))
}
