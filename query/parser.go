package query

import (
	"supergraph/api"
	"supergraph/grammar"
	"supergraph/token"
)

// The words that have a meaning where a definition begins, and before a type condition.
const (
	wordQuery        = "query"
	wordMutation     = "mutation"
	wordSubscription = "subscription"
	wordFragment     = "fragment"
	wordOn           = "on"
)

// spread is the sign before the name of a fragment, and before an inline fragment.
const spread = "..."

// A malformed document ends its parser by a panic with this value: the index and the code of the first error.
type malformed struct {
	at   int
	code api.Errno
}

// fail ends the parser: the token t is wrong.
func fail(t token.Token, code api.Errno) {
	panic(malformed{at: t.At, code: code})
}

type parser struct{ grammar.Reader }

func (p *parser) document() api.Query {
	var q api.Query
	for count := 0; count == 0 || p.Next().Kind != token.End; count++ {
		kind := p.operationKind()
		p.Begin(kind != 0 || p.IsWord(wordFragment), count, api.MaxDefs)
		if kind != 0 {
			q.Ops = append(q.Ops, p.operation(kind))
		} else {
			q.Frags = append(q.Frags, p.fragment())
		}
	}
	return q
}

// operationKind returns the kind of the operations that begin with the next token, or 0 if there are none.
func (p *parser) operationKind() int {
	switch {
	case p.IsSign("{"), p.IsWord(wordQuery):
		return api.OQuery
	case p.IsWord(wordMutation):
		return api.OMutation
	case p.IsWord(wordSubscription):
		return api.OSubscription
	}
	return 0
}

func (p *parser) operation(kind int) api.Op {
	o := api.Op{Kind: kind}
	if p.IsName() {
		p.Take()
		if p.IsName() {
			o.Name = p.Name()
		}
		if p.IsSign("(") {
			o.Vars = grammar.Block(&p.Reader, "()", api.MaxArgs, p.beginsVariable, p.variable)
		}
	}
	o.Sels = p.selections(1)
	return o
}

func (p *parser) beginsVariable() bool { return p.IsSign("$") }

func (p *parser) variable() api.Var {
	p.Sign("$")
	v := api.Var{Name: p.Name()}
	p.Sign(":")
	v.Type = p.Reference()
	v.Has, v.Default = p.Default()
	return v
}

func (p *parser) fragment() api.Frag {
	p.Take()
	f := api.Frag{Name: p.fragmentName()}
	if !p.TakeWord(wordOn) {
		p.Fail(p.Next(), api.ErrForm)
	}
	f.On = p.Name()
	f.Sels = p.selections(1)
	return f
}

// fragmentName takes the name of a fragment: "on" would be read as the beginning of a type condition.
func (p *parser) fragmentName() string {
	if p.IsWord(wordOn) {
		p.Fail(p.Next(), api.ErrForm)
	}
	return p.Name()
}

// selections reads a selection set of this level.
func (p *parser) selections(level int) []api.Sel {
	if p.IsSign("{") && level > api.MaxDepth {
		p.Fail(p.Next(), api.ErrDepth)
	}
	return grammar.Block(&p.Reader, "{}", api.MaxFields, p.beginsSelection, func() api.Sel {
		return p.selection(level)
	})
}

func (p *parser) beginsSelection() bool { return p.IsName() || p.IsSign(spread) }

// selection reads a selection of a set of this level.
func (p *parser) selection(level int) api.Sel {
	if !p.TakeSign(spread) {
		return p.field(level)
	}
	if p.IsName() && !p.IsWord(wordOn) {
		s := api.Sel{Kind: api.SSpread, Name: p.Name()}
		s.Dirs = p.directives()
		return s
	}
	s := api.Sel{Kind: api.SInline}
	if p.TakeWord(wordOn) {
		s.On = p.Name()
	}
	s.Dirs = p.directives()
	s.Sels = p.selections(level + 1)
	return s
}

func (p *parser) field(level int) api.Sel {
	s := api.Sel{Kind: api.SField, Name: p.Name()}
	if p.TakeSign(":") {
		s.Alias = s.Name
		s.Name = p.Name()
	}
	s.Args = p.Arguments(p.Literal)
	s.Dirs = p.directives()
	if p.IsSign("{") {
		s.Sels = p.selections(level + 1)
	}
	return s
}

func (p *parser) directives() []api.Dir { return p.Directives(p.Literal) }
