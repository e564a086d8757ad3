package env

import (
	"strings"

	"wafer/api"
	"wafer/types"
)

// writer: the lines so far, and how many structures the next one stands in.
type writer struct {
	strings.Builder
	depth int
}

// members: writes the lines of a structure's members.
func (w *writer) members(s *api.Str) {
	for m := range members(s) {
		m.write(w)
	}
}

// deeper: the same, one structure deeper.
func (w *writer) deeper(s *api.Str) {
	w.depth++
	w.members(s)
	w.depth--
}

func (w *writer) line(pieces ...string) {
	w.begin(pieces...)
	w.end()
}

// begin: writes what a line begins with, behind its blanks.
func (w *writer) begin(pieces ...string) {
	for range w.depth {
		w.WriteString("  ")
	}
	for _, piece := range pieces {
		w.WriteString(piece)
	}
}

func (w *writer) end() { w.WriteByte('\n') }

func (m *typeMember) write(w *writer) {
	if len(m.Ctors) == 0 {
		w.line("type ", m.Name, " = ", types.Text(m.T))
		return
	}
	w.begin("data ", m.Name, " = ", types.Text(m.T), ": ")
	for i, c := range m.Ctors {
		if i > 0 {
			w.WriteString(" | ")
		}
		w.constructor(c)
	}
	w.end()
}

func (w *writer) constructor(c api.Ctor) {
	w.WriteString(c.Name)
	// There is one at most in what is right: whatever else there is, is told likewise.
	for _, t := range c.Args {
		w.WriteString(" of ")
		w.WriteString(types.Text(t))
	}
}

func (m *valMember) write(w *writer) { w.line("val ", m.Name, ": ", types.SchemeText(m.S)) }

func (m *subMember) write(w *writer) {
	w.line("structure ", m.Name)
	w.deeper(&m.S)
}

func (m *functorMember) write(w *writer) {
	w.line("functor ", m.Name)
	w.depth++
	w.line("from")
	w.deeper(&m.F.Arg)
	w.line("to")
	w.deeper(&m.F.Res.S)
	w.depth--
}

func (m *sigMember) write(w *writer) {
	w.line("signature ", m.Name)
	w.deeper(&m.A.S)
}
