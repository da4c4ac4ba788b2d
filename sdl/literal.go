package sdl

import (
	"supergraph/api"
	"supergraph/text"
	"supergraph/token"
	"supergraph/value"
)

// wholeValue reads a value that is not a part of another one.
func (p *parser) wholeValue() api.Value {
	p.nodes = 0
	return p.value(1)
}

func (p *parser) value(level int) api.Value {
	p.beginValue(level)
	t := p.take()
	switch t.Kind {
	case token.Name:
		return named(t.Text)
	case token.Int:
		// token.Scan has read the number already, so that nothing can fail here.
		n, _ := text.Number(t.Text)
		return value.Int(n)
	case token.Text:
		return value.Text(t.Text)
	}
	if t.Text == "[" {
		return p.list(level)
	}
	return p.object(level)
}

// beginValue counts the value whose first token comes next, and checks the limits.
func (p *parser) beginValue(level int) {
	if !p.isValue() {
		fail(p.next(), api.ErrForm)
	}
	if level > api.MaxDepth {
		fail(p.next(), api.ErrDepth)
	}
	p.nodes++
	if p.nodes > api.MaxNodes {
		fail(p.next(), api.ErrSize)
	}
}

// isValue reports whether the next token can begin a value.
func (p *parser) isValue() bool {
	switch p.next().Kind {
	case token.Name, token.Int, token.Text:
		return true
	}
	return p.isSign("[") || p.isSign("{")
}

// named returns the value that is written as a name.
func named(name string) api.Value {
	switch name {
	case "true":
		return value.Bool(true)
	case "false":
		return value.Bool(false)
	case "null":
		return api.Value{}
	}
	return value.Enum(name)
}

// list reads the rest of a list, after its opening bracket.
func (p *parser) list(level int) api.Value {
	var items []api.Value
	for !p.takeSign("]") {
		items = append(items, p.value(level+1))
	}
	return value.List(items)
}

// object reads the rest of an object, after its opening brace.
func (p *parser) object(level int) api.Value {
	v := api.Value{Kind: api.VObject}
	seen := map[string]bool{}
	for !p.takeSign("}") {
		v.Keys = append(v.Keys, p.key(seen))
		p.sign(":")
		v.Items = append(v.Items, p.value(level+1))
	}
	return v
}

// key reads a key, which must not be among those seen in its object.
func (p *parser) key(seen map[string]bool) string {
	t := p.next()
	key := p.name()
	if seen[key] {
		fail(t, api.ErrTwice)
	}
	seen[key] = true
	return key
}
