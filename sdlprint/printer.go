package sdlprint

import (
	"strconv"
	"strings"

	"supergraph/api"
	"supergraph/text"
	"supergraph/typeref"
)

// A printer collects the text of a document, one part after the other.
type printer struct{ out strings.Builder }

func (p *printer) put(parts ...string) {
	for _, s := range parts {
		p.out.WriteString(s)
	}
}

// separated prints the elements of l, with a separator between them.
func separated[T any](p *printer, l []T, separator string, element func(x T)) {
	for i, x := range l {
		if i > 0 {
			p.put(separator)
		}
		element(x)
	}
}

// definition prints a block, with the end of its last line.
func (p *printer) definition(d api.Def) {
	switch d.Kind {
	case api.DObject:
		p.put("type ", d.Name)
		p.implements(d.Implements)
		block(p, d.Dirs, d.Fields, p.field)
	case api.DInterface:
		p.put("interface ", d.Name)
		block(p, d.Dirs, d.Fields, p.field)
	case api.DUnion:
		p.put("union ", d.Name)
		p.union(d.Dirs, d.Members)
	case api.DEnum:
		p.put("enum ", d.Name)
		block(p, d.Dirs, d.Members, p.member)
	case api.DInput:
		p.put("input ", d.Name)
		block(p, d.Dirs, d.Inputs, p.input)
	}
}

func (p *printer) implements(names []string) {
	if len(names) > 0 {
		p.put(" implements ", strings.Join(names, " & "))
	}
}

// block prints what follows the names in the first line of a definition, and the lines of its elements.
func block[T any](p *printer, dirs []api.Dir, l []T, element func(x T)) {
	p.directives(dirs)
	p.put(" {\n")
	for _, x := range l {
		p.put("  ")
		element(x)
		p.put("\n")
	}
	p.put("}\n")
}

func (p *printer) union(dirs []api.Dir, members []api.Member) {
	p.directives(dirs)
	p.put(" = ")
	separated(p, members, " | ", p.member)
	p.put("\n")
}

func (p *printer) member(m api.Member) {
	p.put(m.Name)
	p.directives(m.Dirs)
}

func (p *printer) field(f api.Field) {
	p.put(f.Name)
	if len(f.Args) > 0 {
		p.put("(")
		separated(p, f.Args, ", ", p.input)
		p.put(")")
	}
	p.put(": ", typeref.Print(f.Type))
	p.directives(f.Dirs)
}

// input prints an argument of a field, or a field of an input type.
func (p *printer) input(i api.Input) {
	p.put(i.Name, ": ", typeref.Print(i.Type))
	if i.Has {
		p.put(" = ")
		p.value(i.Default)
	}
	p.directives(i.Dirs)
}

// directives prints the directives that follow something, with the space between it and them.
func (p *printer) directives(l []api.Dir) {
	if len(l) > 0 {
		p.put(" ")
		separated(p, l, " ", p.directive)
	}
}

func (p *printer) directive(d api.Dir) {
	p.put("@", d.Name)
	if len(d.Args) > 0 {
		p.put("(")
		separated(p, d.Args, ", ", p.argument)
		p.put(")")
	}
}

func (p *printer) argument(a api.Arg) {
	p.put(a.Name, ": ")
	p.value(a.Value)
}

func (p *printer) value(v api.Value) {
	switch v.Kind {
	case api.VNull:
		p.put("null")
	case api.VBool:
		p.put(strconv.FormatBool(v.Int != 0))
	case api.VInt:
		p.put(text.Decimal(v.Int))
	case api.VText:
		p.put(text.Quote(v.Text))
	case api.VEnum:
		p.put(v.Text)
	case api.VVar:
		p.put("$", v.Text)
	case api.VList:
		p.put("[")
		separated(p, v.Items, ", ", p.value)
		p.put("]")
	case api.VObject:
		p.object(v)
	}
}

func (p *printer) object(v api.Value) {
	// Of objects that are no literals, only the keys with items are printed.
	keys := v.Keys[:min(len(v.Keys), len(v.Items))]
	p.put("{")
	for i, key := range keys {
		if i > 0 {
			p.put(", ")
		}
		p.put(key, ": ")
		p.value(v.Items[i])
	}
	p.put("}")
}
