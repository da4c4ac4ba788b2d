package sdlprint

import (
	"slices"

	"supergraph/api"
	"supergraph/parts"
	"supergraph/value"
)

// Sort returns a copy of a document in its canonical order.
func Sort(d api.Doc) api.Doc {
	return api.Doc{Defs: parts.Sorted(d.Defs, sortDefinition, func(x api.Def) string { return x.Name })}
}

func sortDefinition(d api.Def) api.Def {
	d.Implements = slices.Clone(d.Implements)
	slices.Sort(d.Implements)
	d.Dirs = parts.Copies(d.Dirs, copyDirective)
	d.Fields = parts.Sorted(d.Fields, sortField, func(x api.Field) string { return x.Name })
	d.Members = parts.Sorted(d.Members, copyMember, func(x api.Member) string { return x.Name })
	d.Inputs = sortInputs(d.Inputs)
	return d
}

func sortField(f api.Field) api.Field {
	f.Args = sortInputs(f.Args)
	f.Type = parts.CopyType(f.Type)
	f.Dirs = parts.Copies(f.Dirs, copyDirective)
	return f
}

func sortInputs(l []api.Input) []api.Input {
	return parts.Sorted(l, copyInput, func(x api.Input) string { return x.Name })
}

func copyInput(i api.Input) api.Input {
	i.Type = parts.CopyType(i.Type)
	i.Default = value.Copy(i.Default)
	i.Dirs = parts.Copies(i.Dirs, copyDirective)
	return i
}

func copyMember(m api.Member) api.Member {
	m.Dirs = parts.Copies(m.Dirs, copyDirective)
	return m
}

func copyDirective(d api.Dir) api.Dir {
	d.Args = parts.Copies(d.Args, copyArgument)
	return d
}

func copyArgument(a api.Arg) api.Arg {
	a.Value = value.Copy(a.Value)
	return a
}
