package sdl

import (
	"slices"

	"supergraph/api"
	"supergraph/token"
)

// The words that have a meaning where a definition begins, and after the name of an object type.
const (
	wordType       = "type"
	wordInterface  = "interface"
	wordUnion      = "union"
	wordEnum       = "enum"
	wordInput      = "input"
	wordImplements = "implements"
)

// kindOf returns the kind of the definitions that begin with t, or 0 if there are none.
func kindOf(t token.Token) int {
	if t.Kind != token.Name {
		return 0
	}
	switch t.Text {
	case wordType:
		return api.DObject
	case wordInterface:
		return api.DInterface
	case wordUnion:
		return api.DUnion
	case wordEnum:
		return api.DEnum
	case wordInput:
		return api.DInput
	}
	return 0
}

func (p *parser) document() api.Doc {
	var d api.Doc
	for len(d.Defs) == 0 || p.next().Kind != token.End {
		kind := kindOf(p.next())
		p.begin(kind != 0, len(d.Defs), api.MaxDefs)
		d.Defs = append(d.Defs, p.definition(kind))
	}
	return d
}

// definition reads a definition from its first word, which says its kind, to its end.
func (p *parser) definition(kind int) api.Def {
	p.take()
	d := api.Def{Kind: kind, Name: p.name()}
	if kind == api.DObject {
		d.Implements = p.implements()
	}
	d.Dirs = p.directives()
	switch kind {
	case api.DObject, api.DInterface:
		d.Fields = block(p, "{", api.MaxFields, p.field, "}")
	case api.DUnion:
		d.Members = p.union()
	case api.DEnum:
		d.Members = block(p, "{", api.MaxFields, p.member, "}")
	case api.DInput:
		d.Inputs = block(p, "{", api.MaxArgs, p.input, "}")
	}
	return d
}

func (p *parser) implements() []string {
	if !p.isName() || p.next().Text != wordImplements {
		return nil
	}
	p.take()
	return p.names("&")
}

func (p *parser) union() []api.Member {
	p.sign("=")
	var members []api.Member
	for _, name := range p.names("|") {
		members = append(members, api.Member{Name: name})
	}
	return members
}

func (p *parser) member() api.Member {
	m := api.Member{Name: p.name()}
	m.Dirs = p.directives()
	return m
}

func (p *parser) field() api.Field {
	f := api.Field{Name: p.name()}
	if p.isSign("(") {
		f.Args = block(p, "(", api.MaxArgs, p.input, ")")
	}
	p.sign(":")
	f.Type = p.reference()
	f.Dirs = p.directives()
	return f
}

// input reads an argument of a field, or a field of an input type.
func (p *parser) input() api.Input {
	i := api.Input{Name: p.name()}
	p.sign(":")
	i.Type = p.reference()
	if p.takeSign("=") {
		i.Has = true
		i.Default = p.wholeValue()
	}
	i.Dirs = p.directives()
	return i
}

func (p *parser) directives() []api.Dir {
	var l []api.Dir
	for p.isSign("@") {
		p.begin(true, len(l), api.MaxArgs)
		l = append(l, p.directive())
	}
	return l
}

func (p *parser) directive() api.Dir {
	p.sign("@")
	d := api.Dir{Name: p.name()}
	if p.isSign("(") {
		d.Args = block(p, "(", api.MaxArgs, p.argument, ")")
	}
	return d
}

func (p *parser) argument() api.Arg {
	a := api.Arg{Name: p.name()}
	p.sign(":")
	a.Value = p.wholeValue()
	return a
}

// reference reads a type. It does not call itself, because a document can contain many more brackets
// than a reference can have levels; that there are too many is only known at its end.
func (p *parser) reference() api.Ref {
	first := p.next()
	lists := 0
	for p.takeSign("[") {
		lists++
	}
	t := api.Ref{Name: p.name()}
	t.Wraps = p.nonNull(nil)
	for range lists {
		p.sign("]")
		t.Wraps = p.nonNull(append(t.Wraps, api.WList))
	}
	if len(t.Wraps) > api.MaxDepth {
		fail(first, api.ErrDepth)
	}
	slices.Reverse(t.Wraps)
	return t
}

// nonNull takes an exclamation mark if one comes next, and adds its wrapper, the outermost one so far, at the end.
func (p *parser) nonNull(wraps []int) []int {
	if p.takeSign("!") {
		return append(wraps, api.WNonNull)
	}
	return wraps
}
