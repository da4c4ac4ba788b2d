package queryprint

import (
	"strings"

	"supergraph/api"
	"supergraph/sdlprint"
	"supergraph/typeref"
)

// block returns an operation or a fragment; start is what comes before the brace.
func block(start string, l []api.Sel) string { return start + "{\n" + Sels(l) + "}\n" }

// operationStart returns what comes before the brace of an operation: nothing if it needs no keyword.
func operationStart(o api.Op) string {
	if o.Kind == api.OQuery && o.Name == "" && len(o.Vars) == 0 {
		return ""
	}
	return keyword(o.Kind) + after(" ", o.Name) + inParentheses(o.Vars, variable) + " "
}

func keyword(kind int) string {
	switch kind {
	case api.OMutation:
		return "mutation"
	case api.OSubscription:
		return "subscription"
	}
	return "query"
}

func variable(v api.Var) string {
	s := "$" + v.Name + ": " + typeref.Print(v.Type)
	if v.Has {
		s += " = " + sdlprint.Value(v.Default)
	}
	return s
}

func argument(a api.Arg) string { return a.Name + ": " + sdlprint.Value(a.Value) }

// inParentheses returns elements in parentheses, or nothing if there are none.
func inParentheses[T any](l []T, element func(x T) string) string {
	if len(l) == 0 {
		return ""
	}
	var elements []string
	for _, x := range l {
		elements = append(elements, element(x))
	}
	return "(" + strings.Join(elements, ", ") + ")"
}

// after returns s after what separates it from the text before it, or nothing if s is empty.
func after(separator, s string) string {
	if s == "" {
		return ""
	}
	return separator + s
}

// A printer collects the lines of selections.
type printer struct{ out strings.Builder }

func (p *printer) put(parts ...string) {
	for _, s := range parts {
		p.out.WriteString(s)
	}
}

// selections prints the lines of selections at this level.
func (p *printer) selections(l []api.Sel, level int) {
	indent := strings.Repeat("  ", level)
	for _, s := range l {
		p.put(indent, selectionStart(s), after(" ", sdlprint.Directives(s.Dirs)))
		if len(s.Sels) > 0 {
			p.put(" {\n")
			p.selections(s.Sels, level+1)
			p.put(indent, "}")
		}
		p.put("\n")
	}
}

// selectionStart returns what comes before the directives of a selection.
func selectionStart(s api.Sel) string {
	switch s.Kind {
	case api.SSpread:
		return "..." + s.Name
	case api.SInline:
		return "..." + after(" on ", s.On)
	}
	if s.Alias != "" {
		return s.Alias + ": " + s.Name + inParentheses(s.Args, argument)
	}
	return s.Name + inParentheses(s.Args, argument)
}
