package sdl

import (
	"supergraph/api"
	"supergraph/grammar"
	"supergraph/text"
	"supergraph/typeref"
)

// Right reports whether d is a document that can be written, if the text is not too long.
func Right(d api.Doc) bool { return grammar.Within(d.Defs, 1, api.MaxDefs, isDefinition) }

func isDefinition(d api.Def) bool {
	return text.Name(d.Name) && areDirectives(d.Dirs) && hasParts(d)
}

// hasParts checks the lists of d. Each kind of definitions has one that must not be empty, and the
// lists for which the kind leaves no room must be.
func hasParts(d api.Def) bool {
	var implements, fields, members, inputs int
	switch d.Kind {
	case api.DObject:
		implements, fields = api.MaxFields, api.MaxFields
	case api.DInterface:
		fields = api.MaxFields
	case api.DUnion, api.DEnum:
		members = api.MaxFields
	case api.DInput:
		inputs = api.MaxArgs
	default:
		return false
	}
	isMember := isUnionMember
	if d.Kind == api.DEnum {
		isMember = isEnumMember
	}
	return grammar.Within(d.Implements, 0, implements, text.Name) &&
		grammar.Within(d.Fields, min(1, fields), fields, isField) &&
		grammar.Within(d.Members, min(1, members), members, isMember) &&
		grammar.Within(d.Inputs, min(1, inputs), inputs, isInput)
}

func isUnionMember(m api.Member) bool { return text.Name(m.Name) && len(m.Dirs) == 0 }

func isEnumMember(m api.Member) bool { return text.Name(m.Name) && areDirectives(m.Dirs) }

func isField(f api.Field) bool {
	return text.Name(f.Name) && grammar.Within(f.Args, 0, api.MaxArgs, isInput) && typeref.Right(f.Type) && areDirectives(f.Dirs)
}

func isInput(i api.Input) bool {
	return text.Name(i.Name) && typeref.Right(i.Type) && grammar.IsDefault(i.Has, i.Default) && areDirectives(i.Dirs)
}

func areDirectives(l []api.Dir) bool { return grammar.AreDirectives(l, grammar.IsConstant) }
