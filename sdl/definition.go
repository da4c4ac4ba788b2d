package sdl

import (
	"supergraph/api"
	"supergraph/token"
)

// The words that have a meaning where a definition begins, and after the name of an object type.
const (
	wordType       = "type"
	wordInterface  = "interface"
	wordUnion      = "union"
	wordEnum       = "enum"
	wordInput      = "input"
	wordImplements = "implements"
)

// kindOf returns the kind of the definitions that begin with t, or 0 if there are none.
func kindOf(t token.Token) int {
	if t.Kind != token.Name {
		return 0
	}
	switch t.Text {
	case wordType:
		return api.DObject
	case wordInterface:
		return api.DInterface
	case wordUnion:
		return api.DUnion
	case wordEnum:
		return api.DEnum
	case wordInput:
		return api.DInput
	}
	return 0
}

func (p *parser) document() api.Doc {
	var d api.Doc
	for len(d.Defs) == 0 || p.Next().Kind != token.End {
		kind := kindOf(p.Next())
		p.Begin(kind != 0, len(d.Defs), api.MaxDefs)
		d.Defs = append(d.Defs, p.definition(kind))
	}
	return d
}

// definition reads a definition from its first word, which says its kind, to its end.
func (p *parser) definition(kind int) api.Def {
	p.Take()
	d := api.Def{Kind: kind, Name: p.Name()}
	if kind == api.DObject {
		d.Implements = p.implements()
	}
	d.Dirs = p.directives()
	switch kind {
	case api.DObject, api.DInterface:
		d.Fields = block(p, "{}", api.MaxFields, p.field)
	case api.DUnion:
		d.Members = p.union()
	case api.DEnum:
		d.Members = block(p, "{}", api.MaxFields, p.member)
	case api.DInput:
		d.Inputs = block(p, "{}", api.MaxArgs, p.input)
	}
	return d
}

func (p *parser) implements() []string {
	if !p.TakeWord(wordImplements) {
		return nil
	}
	return p.names("&")
}

func (p *parser) union() []api.Member {
	p.Sign("=")
	var members []api.Member
	for _, name := range p.names("|") {
		members = append(members, api.Member{Name: name})
	}
	return members
}

func (p *parser) member() api.Member {
	m := api.Member{Name: p.Name()}
	m.Dirs = p.directives()
	return m
}

func (p *parser) field() api.Field {
	f := api.Field{Name: p.Name()}
	if p.IsSign("(") {
		f.Args = block(p, "()", api.MaxArgs, p.input)
	}
	p.Sign(":")
	f.Type = p.Reference()
	f.Dirs = p.directives()
	return f
}

// input reads an argument of a field, or a field of an input type.
func (p *parser) input() api.Input {
	i := api.Input{Name: p.Name()}
	p.Sign(":")
	i.Type = p.Reference()
	i.Has, i.Default = p.Default()
	i.Dirs = p.directives()
	return i
}
