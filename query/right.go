package query

import (
	"supergraph/api"
	"supergraph/grammar"
	"supergraph/text"
	"supergraph/typeref"
	"supergraph/value"
)

// Right reports whether q is a document that can be written, if the text is not too long.
func Right(q api.Query) bool {
	definitions := len(q.Ops) + len(q.Frags)
	return 1 <= definitions && definitions <= api.MaxDefs &&
		grammar.Within(q.Ops, 0, api.MaxDefs, isOperation) &&
		grammar.Within(q.Frags, 0, api.MaxDefs, isFragment)
}

func isOperation(o api.Op) bool {
	switch o.Kind {
	case api.OQuery, api.OMutation, api.OSubscription:
		return isNameOrEmpty(o.Name) && grammar.Within(o.Vars, 0, api.MaxArgs, isVariable) && areSelections(o.Sels, 1, 1)
	}
	return false
}

func isVariable(v api.Var) bool {
	return text.Name(v.Name) && typeref.Right(v.Type) && grammar.IsDefault(v.Has, v.Default)
}

func isFragment(f api.Frag) bool {
	return isFragmentName(f.Name) && text.Name(f.On) && areSelections(f.Sels, 1, 1)
}

func isNameOrEmpty(s string) bool { return s == "" || text.Name(s) }

func isFragmentName(s string) bool { return s != wordOn && text.Name(s) }

// areSelections reports whether l is right as a selection set of this level, with at least least selections.
func areSelections(l []api.Sel, least, level int) bool {
	if len(l) > 0 && level > api.MaxDepth {
		return false
	}
	return grammar.Within(l, least, api.MaxFields, func(s api.Sel) bool { return isSelection(s, level) })
}

// isSelection reports whether s is right in a selection set of this level: it has the parts of its kind and no other ones.
func isSelection(s api.Sel, level int) bool {
	switch s.Kind {
	case api.SField:
		return isNameOrEmpty(s.Alias) && text.Name(s.Name) && s.On == "" &&
			grammar.AreArguments(s.Args, value.Literal) && areDirectives(s.Dirs) && areSelections(s.Sels, 0, level+1)
	case api.SSpread:
		return s.Alias == "" && isFragmentName(s.Name) && s.On == "" &&
			len(s.Args) == 0 && areDirectives(s.Dirs) && len(s.Sels) == 0
	case api.SInline:
		return s.Alias == "" && s.Name == "" && isNameOrEmpty(s.On) &&
			len(s.Args) == 0 && areDirectives(s.Dirs) && areSelections(s.Sels, 1, level+1)
	}
	return false
}

func areDirectives(l []api.Dir) bool { return grammar.AreDirectives(l, value.Literal) }
