package parsecore

import (
	"wafer/api"
	"wafer/lex"
)

// Reader: goes along the tokens of a text till it fails.
type Reader struct {
	rest []lex.Token
	end  int
	kept fault
}

// Read: a reader ahead of the first token of a text, or why the text has no tokens.
func Read(s string) (*Reader, int, api.Errno) {
	tokens, at, e := lex.Lex(s)
	if e != api.OK {
		return nil, at, e
	}
	return &Reader{rest: tokens, end: len(s)}, 0, api.OK
}

// Ty: the type that stands next.
func (r *Reader) Ty() api.Ty { return face(r, (*Reader).ty) }

// Pat: the pattern that stands next.
func (r *Reader) Pat() api.Pat { return face(r, (*Reader).pat) }

// Exp: the expression that stands next.
func (r *Reader) Exp() api.Exp { return face(r, (*Reader).exp) }

// Dec: the `val` or `fun` that stands next.
func (r *Reader) Dec() api.Dec { return face(r, (*Reader).dec) }

// Is: does that word or mark stand next?
func (r *Reader) Is(text string) bool {
	t, _ := r.Next()
	return (t.Kind == lex.Word || t.Kind == lex.Mark) && t.Text == text
}

// Take: takes that word or mark, if it stands next.
func (r *Reader) Take(text string) bool {
	if !r.Is(text) {
		return false
	}
	r.step()
	return true
}

// Need: takes that word or mark, or fails.
func (r *Reader) Need(text string) {
	if !r.Take(text) {
		r.Fail(api.ErrSyntax)
	}
}

// Lower: the low name that stands next.
func (r *Reader) Lower() string { return face(r, (*Reader).low) }

// Upper: the high name that stands next.
func (r *Reader) Upper() string { return face(r, (*Reader).high) }

// Path: the names of the path that stands next, whose last one is a low or a high name.
func (r *Reader) Path(lower bool) []string {
	if lower {
		return face(r, (*Reader).lowPath)
	}
	return face(r, (*Reader).highPath)
}

// Next: the token that stands next, if there is one and the reader has not failed.
func (r *Reader) Next() (lex.Token, bool) {
	if !r.goesOn() || len(r.rest) == 0 {
		return lex.Token{}, false
	}
	return r.rest[0], true
}

// Fail: fails with that error at the token that stands next.
func (r *Reader) Fail(e api.Errno) {
	if r.goesOn() && e != api.OK {
		r.kept = fault{r.place(), e}
	}
}

// Done: where and how the reader failed; else whether something is left.
func (r *Reader) Done() (int, api.Errno) {
	if r == nil {
		return 0, api.ErrNil
	}
	if t, more := r.Next(); more {
		return t.At, api.ErrSyntax
	}
	return r.kept.at, r.kept.err
}

// goesOn: is there a reader, and has it not failed?
func (r *Reader) goesOn() bool { return r != nil && r.kept.err == api.OK }

// place: where the token stands that stands next, or the end of the text.
func (r *Reader) place() int {
	if len(r.rest) == 0 {
		return r.end
	}
	return r.rest[0].At
}

// step: goes behind the token that stands next.
func (r *Reader) step() { r.rest = r.rest[1:] }

// giveUp: leaves the rule that is read, since it can't go on with the token that stands next.
func (r *Reader) giveUp() { panic(fault{r.place(), api.ErrSyntax}) }

// need: takes that word or mark, or gives up.
func (r *Reader) need(text string) {
	if !r.Take(text) {
		r.giveUp()
	}
}

// name: takes a name of that kind, or gives up.
func (r *Reader) name(kind int) string {
	t, _ := r.Next()
	if t.Kind != kind {
		r.giveUp()
	}
	r.step()
	return t.Text
}

func (r *Reader) low() string { return r.name(lex.Lower) }

func (r *Reader) high() string { return r.name(lex.Upper) }
