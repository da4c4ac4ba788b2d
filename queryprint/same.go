package queryprint

import (
	"slices"

	"supergraph/api"
	"supergraph/parts"
	"supergraph/typeref"
	"supergraph/value"
)

// Same reports whether two documents are equal in all parts.
func Same(a, b api.Query) bool {
	return slices.EqualFunc(a.Ops, b.Ops, sameOperation) && slices.EqualFunc(a.Frags, b.Frags, sameFragment)
}

func sameOperation(a, b api.Op) bool {
	return a.Kind == b.Kind && a.Name == b.Name &&
		slices.EqualFunc(a.Vars, b.Vars, sameVariable) &&
		sameSelections(a.Sels, b.Sels)
}

func sameVariable(a, b api.Var) bool {
	return a.Name == b.Name && typeref.Same(a.Type, b.Type) &&
		a.Has == b.Has && value.Same(a.Default, b.Default)
}

func sameFragment(a, b api.Frag) bool {
	return a.Name == b.Name && a.On == b.On && sameSelections(a.Sels, b.Sels)
}

func sameSelections(a, b []api.Sel) bool { return slices.EqualFunc(a, b, sameSelection) }

func sameSelection(a, b api.Sel) bool {
	return a.Kind == b.Kind && a.Alias == b.Alias && a.Name == b.Name && a.On == b.On &&
		parts.SameArguments(a.Args, b.Args) &&
		parts.SameDirectives(a.Dirs, b.Dirs) &&
		sameSelections(a.Sels, b.Sels)
}
