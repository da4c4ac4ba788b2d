package sdlprint

import (
	"slices"

	"supergraph/api"
	"supergraph/parts"
	"supergraph/typeref"
	"supergraph/value"
)

// Same reports whether two documents are equal in all parts.
func Same(a, b api.Doc) bool { return slices.EqualFunc(a.Defs, b.Defs, sameDefinition) }

func sameDefinition(a, b api.Def) bool {
	return a.Kind == b.Kind && a.Name == b.Name &&
		slices.Equal(a.Implements, b.Implements) &&
		parts.SameDirectives(a.Dirs, b.Dirs) &&
		slices.EqualFunc(a.Fields, b.Fields, sameField) &&
		slices.EqualFunc(a.Members, b.Members, sameMember) &&
		slices.EqualFunc(a.Inputs, b.Inputs, sameInput)
}

func sameField(a, b api.Field) bool {
	return a.Name == b.Name && typeref.Same(a.Type, b.Type) &&
		slices.EqualFunc(a.Args, b.Args, sameInput) &&
		parts.SameDirectives(a.Dirs, b.Dirs)
}

func sameInput(a, b api.Input) bool {
	return a.Name == b.Name && typeref.Same(a.Type, b.Type) &&
		a.Has == b.Has && value.Same(a.Default, b.Default) &&
		parts.SameDirectives(a.Dirs, b.Dirs)
}

func sameMember(a, b api.Member) bool {
	return a.Name == b.Name && parts.SameDirectives(a.Dirs, b.Dirs)
}
