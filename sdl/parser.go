package sdl

import (
	"supergraph/api"
	"supergraph/grammar"
	"supergraph/token"
)

// A malformed document ends its parser by a panic with this value: the index and the code of the first error.
type malformed struct {
	at   int
	code api.Errno
}

// fail ends the parser: the token t is wrong.
func fail(t token.Token, code api.Errno) {
	panic(malformed{at: t.At, code: code})
}

type parser struct{ grammar.Reader }

// block reads one or more elements that begin with names, between two signs.
func block[T any](p *parser, signs string, most int, element func() T) []T {
	return grammar.Block(&p.Reader, signs, most, p.IsName, element)
}

// names reads one or more names with a sign between them.
func (p *parser) names(separator string) []string {
	var l []string
	for len(l) == 0 || p.TakeSign(separator) {
		p.Begin(p.IsName(), len(l), api.MaxFields)
		l = append(l, p.Name())
	}
	return l
}

func (p *parser) directives() []api.Dir { return p.Directives(p.Constant) }
