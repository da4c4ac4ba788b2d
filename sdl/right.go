package sdl

import (
	"supergraph/api"
	"supergraph/text"
	"supergraph/typeref"
	"supergraph/value"
)

// Right reports whether d is a document that can be written, if the text is not too long.
func Right(d api.Doc) bool { return within(d.Defs, 1, api.MaxDefs, isDefinition) }

// within reports whether l has least to most elements, and all of them are right.
func within[T any](l []T, least, most int, isRight func(x T) bool) bool {
	if len(l) < least || len(l) > most {
		return false
	}
	for _, x := range l {
		if !isRight(x) {
			return false
		}
	}
	return true
}

func isDefinition(d api.Def) bool {
	return text.Name(d.Name) && areDirectives(d.Dirs) && hasParts(d)
}

// hasParts checks the lists of d. Each kind of definitions has one that must not be empty, and the
// lists for which the kind leaves no room must be.
func hasParts(d api.Def) bool {
	var implements, fields, members, inputs int
	switch d.Kind {
	case api.DObject:
		implements, fields = api.MaxFields, api.MaxFields
	case api.DInterface:
		fields = api.MaxFields
	case api.DUnion, api.DEnum:
		members = api.MaxFields
	case api.DInput:
		inputs = api.MaxArgs
	default:
		return false
	}
	isMember := isUnionMember
	if d.Kind == api.DEnum {
		isMember = isEnumMember
	}
	return within(d.Implements, 0, implements, text.Name) &&
		within(d.Fields, min(1, fields), fields, isField) &&
		within(d.Members, min(1, members), members, isMember) &&
		within(d.Inputs, min(1, inputs), inputs, isInput)
}

func isUnionMember(m api.Member) bool { return text.Name(m.Name) && len(m.Dirs) == 0 }

func isEnumMember(m api.Member) bool { return text.Name(m.Name) && areDirectives(m.Dirs) }

func isField(f api.Field) bool {
	return text.Name(f.Name) && within(f.Args, 0, api.MaxArgs, isInput) && typeref.Right(f.Type) && areDirectives(f.Dirs)
}

func isInput(i api.Input) bool {
	return text.Name(i.Name) && typeref.Right(i.Type) && isDefault(i.Has, i.Default) && areDirectives(i.Dirs)
}

func isDefault(has bool, v api.Value) bool {
	if has {
		return isConstant(v)
	}
	// A right null has no content, not even keys without items, which a comparison would ignore.
	return v.Kind == api.VNull && value.Right(v)
}

func areDirectives(l []api.Dir) bool { return within(l, 0, api.MaxArgs, isDirective) }

func isDirective(d api.Dir) bool {
	return text.Name(d.Name) && within(d.Args, 0, api.MaxArgs, isArgument)
}

func isArgument(a api.Arg) bool { return text.Name(a.Name) && isConstant(a.Value) }

// isConstant reports whether v is a literal without variables: these are no plain values.
func isConstant(v api.Value) bool { return value.Literal(v) && value.Right(v) }
