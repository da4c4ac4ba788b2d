package grammar

import (
	"slices"

	"supergraph/api"
)

// Reference reads a type. It does not call itself, because a document can contain many more brackets
// than a reference can have levels; that there are too many is only known at its end.
func (r *Reader) Reference() api.Ref {
	first := r.Next()
	lists := 0
	for r.TakeSign("[") {
		lists++
	}
	t := api.Ref{Name: r.Name()}
	t.Wraps = r.nonNull(nil)
	for range lists {
		r.Sign("]")
		t.Wraps = r.nonNull(append(t.Wraps, api.WList))
	}
	if len(t.Wraps) > api.MaxDepth {
		r.Fail(first, api.ErrDepth)
	}
	slices.Reverse(t.Wraps)
	return t
}

// nonNull takes an exclamation mark if one comes next, and adds its wrapper, the outermost one so far, at the end.
func (r *Reader) nonNull(wraps []int) []int {
	if r.TakeSign("!") {
		return append(wraps, api.WNonNull)
	}
	return wraps
}

// Default reads a default value if one comes next, and reports whether it does.
func (r *Reader) Default() (bool, api.Value) {
	if !r.TakeSign("=") {
		return false, api.Value{}
	}
	return true, r.Constant()
}

// Directives reads the directives at one place, if there are any. The values of their arguments are
// read by whole, which is Constant or Literal.
func (r *Reader) Directives(whole func() api.Value) []api.Dir {
	var l []api.Dir
	for r.IsSign("@") {
		r.Begin(true, len(l), api.MaxArgs)
		l = append(l, r.directive(whole))
	}
	return l
}

func (r *Reader) directive(whole func() api.Value) api.Dir {
	r.Sign("@")
	d := api.Dir{Name: r.Name()}
	d.Args = r.Arguments(whole)
	return d
}

// Arguments reads arguments in parentheses if they come next. Their values are read by whole.
func (r *Reader) Arguments(whole func() api.Value) []api.Arg {
	if !r.IsSign("(") {
		return nil
	}
	return Block(r, "()", api.MaxArgs, r.IsName, func() api.Arg {
		a := api.Arg{Name: r.Name()}
		r.Sign(":")
		a.Value = whole()
		return a
	})
}
