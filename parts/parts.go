// Package parts copies, sorts and compares the parts that schema documents (layer 7) and documents of
// operations (layer 9) have in common.
package parts

import (
	"slices"
	"strings"

	"supergraph/api"
	"supergraph/value"
)

// Copies returns copies of the elements of l, which copyOf makes.
func Copies[T any](l []T, copyOf func(x T) T) []T {
	l = slices.Clone(l)
	for i, x := range l {
		l[i] = copyOf(x)
	}
	return l
}

// Sorted returns copies of the elements of l, which copyOf makes, in the order of the keys of the
// copies; those with equal keys stay in their order.
func Sorted[T any](l []T, copyOf func(x T) T, key func(x T) string) []T {
	l = Copies(l, copyOf)
	slices.SortStableFunc(l, func(a, b T) int { return strings.Compare(key(a), key(b)) })
	return l
}

// CopyType returns a copy of a type reference.
func CopyType(t api.Ref) api.Ref {
	t.Wraps = slices.Clone(t.Wraps)
	return t
}

// SameDirectives reports whether the uses of directives at two places are equal.
func SameDirectives(a, b []api.Dir) bool { return slices.EqualFunc(a, b, sameDirective) }

func sameDirective(a, b api.Dir) bool { return a.Name == b.Name && SameArguments(a.Args, b.Args) }

// SameArguments reports whether the arguments of two fields or directives are equal.
func SameArguments(a, b []api.Arg) bool { return slices.EqualFunc(a, b, sameArgument) }

func sameArgument(a, b api.Arg) bool { return a.Name == b.Name && value.Same(a.Value, b.Value) }
