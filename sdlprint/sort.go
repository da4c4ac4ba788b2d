package sdlprint

import (
	"slices"
	"strings"

	"supergraph/api"
	"supergraph/value"
)

// Sort returns a copy of a document in its canonical order.
func Sort(d api.Doc) api.Doc {
	return api.Doc{Defs: sorted(d.Defs, sortDefinition, func(x api.Def) string { return x.Name })}
}

// sorted returns copies of the elements of l in the order of their names.
func sorted[T any](l []T, copyOf func(x T) T, name func(x T) string) []T {
	l = copies(l, copyOf)
	slices.SortStableFunc(l, func(a, b T) int { return strings.Compare(name(a), name(b)) })
	return l
}

func copies[T any](l []T, copyOf func(x T) T) []T {
	l = slices.Clone(l)
	for i, x := range l {
		l[i] = copyOf(x)
	}
	return l
}

func sortDefinition(d api.Def) api.Def {
	d.Implements = slices.Clone(d.Implements)
	slices.Sort(d.Implements)
	d.Dirs = copies(d.Dirs, copyDirective)
	d.Fields = sorted(d.Fields, sortField, func(x api.Field) string { return x.Name })
	d.Members = sorted(d.Members, copyMember, func(x api.Member) string { return x.Name })
	d.Inputs = sortInputs(d.Inputs)
	return d
}

func sortField(f api.Field) api.Field {
	f.Args = sortInputs(f.Args)
	f.Type = copyType(f.Type)
	f.Dirs = copies(f.Dirs, copyDirective)
	return f
}

func sortInputs(l []api.Input) []api.Input {
	return sorted(l, copyInput, func(x api.Input) string { return x.Name })
}

func copyInput(i api.Input) api.Input {
	i.Type = copyType(i.Type)
	i.Default = value.Copy(i.Default)
	i.Dirs = copies(i.Dirs, copyDirective)
	return i
}

func copyMember(m api.Member) api.Member {
	m.Dirs = copies(m.Dirs, copyDirective)
	return m
}

func copyType(t api.Ref) api.Ref {
	t.Wraps = slices.Clone(t.Wraps)
	return t
}

func copyDirective(d api.Dir) api.Dir {
	d.Args = copies(d.Args, copyArgument)
	return d
}

func copyArgument(a api.Arg) api.Arg {
	a.Value = value.Copy(a.Value)
	return a
}
