package types

import (
	"strconv"
	"strings"

	"wafer/api"
)

// writer: the text of a type so far.
type writer struct{ strings.Builder }

func (w *writer) write(t api.Type) {
	switch t.Kind {
	case api.TInt:
		w.WriteString("int")
	case api.TBool:
		w.WriteString("bool")
	case api.TUnit:
		w.WriteString("unit")
	case api.TFn:
		w.two(t.Kids, " -> ", 2, 1)
	case api.TPair:
		w.two(t.Kids, " * ", 2, 3)
	case api.TStamp:
		w.numbered("#", t.N)
	case api.TMeta:
		w.numbered("?", t.N)
	case api.TGen:
		w.gen(t.N)
	default:
		w.WriteString("?")
	}
}

// two: two types with a mark between them, each in parentheses if its own level is below the one that is asked for.
func (w *writer) two(kids []api.Type, mark string, first, second int) {
	if len(kids) != 2 {
		w.WriteString("?")
		return
	}
	w.at(first, kids[0])
	w.WriteString(mark)
	w.at(second, kids[1])
}

func (w *writer) at(asked int, t api.Type) {
	if level(t) >= asked {
		w.write(t)
		return
	}
	w.WriteString("(")
	w.write(t)
	w.WriteString(")")
}

// level: how close the text of a type holds together; what is written as one piece is never in parentheses, also a TFn or a TPair that is not right.
func level(t api.Type) int {
	switch {
	case t.Kind == api.TFn && len(t.Kids) == 2:
		return 1
	case t.Kind == api.TPair && len(t.Kids) == 2:
		return 2
	}
	return 3
}

func (w *writer) numbered(mark string, n int) {
	w.WriteString(mark)
	w.WriteString(strconv.Itoa(n))
}

// letters: of the alphabet, through which the names of TGen go round.
const letters = 26

func (w *writer) gen(n int) {
	if n < 0 {
		w.WriteString("'?")
		return
	}
	w.WriteByte('\'')
	w.WriteByte(byte('a' + n%letters))
	if n >= letters {
		w.WriteString(strconv.Itoa(n / letters))
	}
}
