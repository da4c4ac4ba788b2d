package sdl

import (
	"supergraph/api"
	"supergraph/token"
)

// A malformed document ends its parser by a panic with this value: the index and the code of the first error.
type malformed struct {
	at   int
	code api.Errno
}

// A parser takes one token after the other, but never the last one, the End.
type parser struct {
	tokens []token.Token
	nodes  int // how many values have begun within the whole value that is read
}

func (p *parser) next() token.Token { return p.tokens[0] }

func (p *parser) take() token.Token {
	t := p.next()
	p.tokens = p.tokens[1:]
	return t
}

// fail ends the parser: the token t is wrong.
func fail(t token.Token, code api.Errno) {
	panic(malformed{at: t.At, code: code})
}

func (p *parser) isSign(s string) bool {
	t := p.next()
	return t.Kind == token.Sign && t.Text == s
}

func (p *parser) isName() bool { return p.next().Kind == token.Name }

// takeSign takes the sign s if it comes next, and reports whether it does.
func (p *parser) takeSign(s string) bool {
	if !p.isSign(s) {
		return false
	}
	p.take()
	return true
}

// sign takes the sign s, which must come next.
func (p *parser) sign(s string) {
	if !p.takeSign(s) {
		fail(p.next(), api.ErrForm)
	}
}

// name takes a name, which must come next.
func (p *parser) name() string {
	if !p.isName() {
		fail(p.next(), api.ErrForm)
	}
	return p.take().Text
}

// begin checks whether the next token begins one more element of a list that has count elements and
// may have most: can says whether it is a token that begins such elements at all.
func (p *parser) begin(can bool, count, most int) {
	if !can {
		fail(p.next(), api.ErrForm)
	}
	if count == most {
		fail(p.next(), api.ErrSize)
	}
}

// block reads one or more elements that begin with names, between two signs.
func block[T any](p *parser, opening string, most int, element func() T, closing string) []T {
	var l []T
	p.sign(opening)
	for len(l) == 0 || !p.takeSign(closing) {
		p.begin(p.isName(), len(l), most)
		l = append(l, element())
	}
	return l
}

// names reads one or more names with a sign between them.
func (p *parser) names(separator string) []string {
	var l []string
	for len(l) == 0 || p.takeSign(separator) {
		p.begin(p.isName(), len(l), api.MaxFields)
		l = append(l, p.name())
	}
	return l
}
