package queryprint

import (
	"cmp"
	"slices"

	"supergraph/api"
	"supergraph/parts"
	"supergraph/sdlprint"
	"supergraph/value"
)

// Signature returns a document of the operation with the index op and of the fragments that it uses,
// without aliases and without the content of values, all of whose parts are sorted.
func Signature(q api.Query, op int) api.Query {
	if op < 0 || op >= len(q.Ops) {
		return api.Query{}
	}
	o := q.Ops[op]
	return api.Query{
		Ops:   []api.Op{signOperation(o)},
		Frags: parts.Sorted(used(o.Sels, q.Frags), signFragment, func(x api.Frag) string { return x.Name }),
	}
}

func signOperation(o api.Op) api.Op {
	o.Vars = parts.Sorted(o.Vars, signVariable, func(x api.Var) string { return x.Name })
	o.Sels = signSelections(o.Sels)
	return o
}

func signVariable(v api.Var) api.Var {
	v.Type = parts.CopyType(v.Type)
	v.Default = signValue(v.Default)
	return v
}

func signFragment(f api.Frag) api.Frag {
	f.Sels = signSelections(f.Sels)
	return f
}

func signSelections(l []api.Sel) []api.Sel {
	l = parts.Sorted(l, signSelection, func(x api.Sel) string { return Sels([]api.Sel{x}) })
	slices.SortStableFunc(l, func(a, b api.Sel) int { return cmp.Compare(a.Kind, b.Kind) })
	return l
}

func signSelection(s api.Sel) api.Sel {
	s.Alias = ""
	s.Args = signArguments(s.Args)
	s.Dirs = parts.Sorted(s.Dirs, signDirective, func(x api.Dir) string { return sdlprint.Directives([]api.Dir{x}) })
	s.Sels = signSelections(s.Sels)
	return s
}

func signDirective(d api.Dir) api.Dir {
	d.Args = signArguments(d.Args)
	return d
}

func signArguments(l []api.Arg) []api.Arg {
	return parts.Sorted(l, signArgument, func(x api.Arg) string { return x.Name })
}

func signArgument(a api.Arg) api.Arg {
	a.Value = signValue(a.Value)
	return a
}

// signValue returns a value without the content that requests vary.
func signValue(v api.Value) api.Value {
	switch v.Kind {
	case api.VInt, api.VText, api.VList, api.VObject:
		return api.Value{Kind: v.Kind}
	}
	return value.Copy(v)
}
