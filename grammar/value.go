package grammar

import (
	"supergraph/api"
	"supergraph/text"
	"supergraph/token"
	"supergraph/value"
)

// Constant reads a whole value, one that is not a part of another one, without variables.
func (r *Reader) Constant() api.Value { return r.whole(false) }

// Literal reads a whole value that may contain variables.
func (r *Reader) Literal() api.Value { return r.whole(true) }

func (r *Reader) whole(variables bool) api.Value {
	r.variables, r.nodes = variables, 0
	return r.value(1)
}

func (r *Reader) value(level int) api.Value {
	r.beginValue(level)
	t := r.Take()
	switch t.Kind {
	case token.Name:
		return named(t.Text)
	case token.Int:
		// token.Scan has read the number already, so that nothing can fail here.
		n, _ := text.Number(t.Text)
		return value.Int(n)
	case token.Text:
		return value.Text(t.Text)
	}
	switch t.Text {
	case "[":
		return r.list(level)
	case "{":
		return r.object(level)
	}
	return api.Value{Kind: api.VVar, Text: r.Name()}
}

// beginValue counts the value whose first token comes next, and checks the limits.
func (r *Reader) beginValue(level int) {
	if !r.isValue() {
		r.Fail(r.Next(), api.ErrForm)
	}
	if level > api.MaxDepth {
		r.Fail(r.Next(), api.ErrDepth)
	}
	r.nodes++
	if r.nodes > api.MaxNodes {
		r.Fail(r.Next(), api.ErrSize)
	}
}

// isValue reports whether the next token can begin a value.
func (r *Reader) isValue() bool {
	switch r.Next().Kind {
	case token.Name, token.Int, token.Text:
		return true
	}
	return r.IsSign("[") || r.IsSign("{") || r.variables && r.IsSign("$")
}

// named returns the value that is written as a name.
func named(name string) api.Value {
	switch name {
	case "true":
		return value.Bool(true)
	case "false":
		return value.Bool(false)
	case "null":
		return api.Value{}
	}
	return value.Enum(name)
}

// list reads the rest of a list, after its opening bracket.
func (r *Reader) list(level int) api.Value {
	var items []api.Value
	for !r.TakeSign("]") {
		items = append(items, r.value(level+1))
	}
	return value.List(items)
}

// object reads the rest of an object, after its opening brace.
func (r *Reader) object(level int) api.Value {
	v := api.Value{Kind: api.VObject}
	seen := map[string]bool{}
	for !r.TakeSign("}") {
		v.Keys = append(v.Keys, r.key(seen))
		r.Sign(":")
		v.Items = append(v.Items, r.value(level+1))
	}
	return v
}

// key reads a key, which must not be among those seen in its object.
func (r *Reader) key(seen map[string]bool) string {
	t := r.Next()
	key := r.Name()
	if seen[key] {
		r.Fail(t, api.ErrTwice)
	}
	seen[key] = true
	return key
}
