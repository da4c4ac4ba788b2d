package grammar

import (
	"supergraph/api"
	"supergraph/text"
	"supergraph/value"
)

// Within reports whether l has least to most elements, and all of them are right.
func Within[T any](l []T, least, most int, isRight func(x T) bool) bool {
	if len(l) < least || len(l) > most {
		return false
	}
	for _, x := range l {
		if !isRight(x) {
			return false
		}
	}
	return true
}

// IsConstant reports whether v is a literal without variables: literals with variables are no plain values.
func IsConstant(v api.Value) bool { return value.Literal(v) && value.Right(v) }

// IsDefault reports whether v is right as a default value, if there is one, and the zero value otherwise.
func IsDefault(has bool, v api.Value) bool {
	if has {
		return IsConstant(v)
	}
	// A right null has no content, not even keys without items, which a comparison would ignore.
	return v.Kind == api.VNull && value.Right(v)
}

// AreDirectives reports whether l is right; isRight says it of the values of arguments.
func AreDirectives(l []api.Dir, isRight func(v api.Value) bool) bool {
	return Within(l, 0, api.MaxArgs, func(d api.Dir) bool {
		return text.Name(d.Name) && AreArguments(d.Args, isRight)
	})
}

// AreArguments reports whether l is right; isRight says it of the values.
func AreArguments(l []api.Arg, isRight func(v api.Value) bool) bool {
	return Within(l, 0, api.MaxArgs, func(a api.Arg) bool {
		return text.Name(a.Name) && isRight(a.Value)
	})
}
