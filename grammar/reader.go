// Package grammar reads and checks the parts that schema documents (layer 6) and documents of
// operations (layer 8) have in common.
package grammar

import (
	"supergraph/api"
	"supergraph/token"
)

// A Reader takes one token after the other, but never the last one, the End.
type Reader struct {
	Tokens []token.Token
	// Fail reports a wrong token by a panic, which the function that reads the document recovers;
	// so it does not return.
	Fail func(t token.Token, code api.Errno)

	variables bool // whether the whole value that is read may contain variables
	nodes     int  // how many values have begun within this whole value
}

// Next returns the next token and leaves it there.
func (r *Reader) Next() token.Token { return r.Tokens[0] }

// Take takes the next token, which must not be the End.
func (r *Reader) Take() token.Token {
	t := r.Next()
	r.Tokens = r.Tokens[1:]
	return t
}

// IsSign reports whether the sign s comes next.
func (r *Reader) IsSign(s string) bool {
	t := r.Next()
	return t.Kind == token.Sign && t.Text == s
}

// IsName reports whether a name comes next.
func (r *Reader) IsName() bool { return r.Next().Kind == token.Name }

// IsWord reports whether the name s comes next.
func (r *Reader) IsWord(s string) bool { return r.IsName() && r.Next().Text == s }

// TakeSign takes the sign s if it comes next, and reports whether it does.
func (r *Reader) TakeSign(s string) bool {
	if !r.IsSign(s) {
		return false
	}
	r.Take()
	return true
}

// TakeWord takes the name s if it comes next, and reports whether it does.
func (r *Reader) TakeWord(s string) bool {
	if !r.IsWord(s) {
		return false
	}
	r.Take()
	return true
}

// Sign takes the sign s, which must come next.
func (r *Reader) Sign(s string) {
	if !r.TakeSign(s) {
		r.Fail(r.Next(), api.ErrForm)
	}
}

// Name takes a name, which must come next.
func (r *Reader) Name() string {
	if !r.IsName() {
		r.Fail(r.Next(), api.ErrForm)
	}
	return r.Take().Text
}

// Begin checks whether the next token begins one more element of a list that has count elements and
// may have most: can says whether it is a token that begins such elements at all.
func (r *Reader) Begin(can bool, count, most int) {
	if !can {
		r.Fail(r.Next(), api.ErrForm)
	}
	if count == most {
		r.Fail(r.Next(), api.ErrSize)
	}
}

// Block reads one or more elements between two signs, which are the bytes of signs; begins reports
// whether the next token can begin an element.
func Block[T any](r *Reader, signs string, most int, begins func() bool, element func() T) []T {
	var l []T
	r.Sign(signs[:1])
	for len(l) == 0 || !r.TakeSign(signs[1:]) {
		r.Begin(begins(), len(l), most)
		l = append(l, element())
	}
	return l
}
