package schema_test

import (
	"fmt"
	"reflect"
	"regexp"
	"slices"
	"strings"
	"testing"

	"supergraph/api"
	"supergraph/schema"
)

// written returns violations as text: the name of each code, and the place.
func written(l []api.Fault) string {
	codes := map[api.Errno]string{6: "Name", 7: "Twice", 8: "None", 9: "Kind", 10: "Type", 5: "Depth", 30: "Root"}
	var parts []string
	for _, f := range l {
		parts = append(parts, codes[f.Err]+" "+f.At)
	}
	return strings.Join(parts, ", ")
}

// expected has the violations that the chapter states, found by a search for each name.
type expected []api.Fault

func (l *expected) add(isBroken bool, code api.Errno, at string) {
	if isBroken {
		*l = append(*l, api.Fault{Err: code, At: at})
	}
}

func expectedFaults(d api.Doc, whole bool) []api.Fault {
	var l expected
	hasQuery := false
	for i, x := range d.Defs {
		l.add(!isAllowed(x.Name), 6, x.Name)
		l.add(slices.Contains(scalars(), x.Name) || slices.Contains(typeNames(d.Defs[:i]), x.Name), 7, x.Name)
		l.definition(d, x)
		hasQuery = hasQuery || x.Name == "Query"
	}
	l.add(whole && !hasQuery, 30, "Query")
	return l
}

var allowedNames = regexp.MustCompile(`^[A-Za-z_][A-Za-z_0-9]{0,63}$`)

func isAllowed(name string) bool {
	return allowedNames.MatchString(name) && !strings.HasPrefix(name, "__")
}

func typeNames(l []api.Def) []string {
	var names []string
	for _, x := range l {
		names = append(names, x.Name)
	}
	return names
}

func (l *expected) definition(d api.Doc, x api.Def) {
	isObject, isInterface, isUnion, isEnum, isInput := x.Kind == 1, x.Kind == 2, x.Kind == 3, x.Kind == 4, x.Kind == 5
	l.add((isObject || isInterface) && len(x.Fields) == 0, 8, x.Name)
	l.add((isUnion || isEnum) && len(x.Members) == 0, 8, x.Name)
	l.add(isInput && len(x.Inputs) == 0, 8, x.Name)
	isRoot := x.Name == "Query" || x.Name == "Mutation" || x.Name == "Subscription"
	l.add(isRoot && !isObject || !isObject && !isInterface && !isUnion && !isEnum && !isInput, 9, x.Name)
	l.add(isInput && contains(d, x), 5, x.Name)
	for i, f := range x.Fields {
		if !isObject && !isInterface {
			break
		}
		at := x.Name + "." + f.Name
		l.add(!isAllowed(f.Name), 6, at)
		l.add(slices.ContainsFunc(x.Fields[:i], func(e api.Field) bool { return e.Name == f.Name }), 7, at)
		l.add(isUnknown(d, f.Type.Name), 8, at)
		l.add(!slices.Contains(scalars(), f.Type.Name) && firstKind(d, f.Type.Name) == 5, 10, at)
		l.inputs(d, f.Args, func(name string) string { return at + "(" + name + ")" })
	}
	for i, m := range x.Members {
		if isEnum {
			at := x.Name + "." + m.Name
			l.add(!isAllowed(m.Name) || slices.Contains([]string{"true", "false", "null"}, m.Name), 6, at)
			l.add(slices.ContainsFunc(x.Members[:i], func(e api.Member) bool { return e.Name == m.Name }), 7, at)
		}
	}
	if isInput {
		l.inputs(d, x.Inputs, func(name string) string { return x.Name + "." + name })
	}
}

func (l *expected) inputs(d api.Doc, inputs []api.Input, place func(name string) string) {
	for i, x := range inputs {
		at := place(x.Name)
		l.add(!isAllowed(x.Name), 6, at)
		l.add(slices.ContainsFunc(inputs[:i], func(e api.Input) bool { return e.Name == x.Name }), 7, at)
		l.add(isUnknown(d, x.Type.Name), 8, at)
		isInput := slices.Contains(scalars(), x.Type.Name) || slices.Contains([]int{4, 5}, firstKind(d, x.Type.Name))
		l.add(!isUnknown(d, x.Type.Name) && !isInput, 10, at)
	}
}

func isUnknown(d api.Doc, name string) bool {
	return !slices.Contains(scalars(), name) && !slices.Contains(typeNames(d.Defs), name)
}

// contains reports whether an input type contains itself: whether its name is among the names of the
// types that its fields lead to.
func contains(d api.Doc, x api.Def) bool {
	reached := required(x)
	for i := 0; i < len(reached); i++ {
		k := slices.IndexFunc(d.Defs, func(e api.Def) bool { return e.Name == reached[i] })
		if k < 0 || d.Defs[k].Kind != 5 {
			continue
		}
		for _, name := range required(d.Defs[k]) {
			if !slices.Contains(reached, name) {
				reached = append(reached, name)
			}
		}
	}
	return slices.Contains(reached, x.Name)
}

// required returns the names of the types of the input fields that have WNonNull as their only wrapper.
func required(x api.Def) []string {
	var names []string
	for _, i := range x.Inputs {
		if len(i.Type.Wraps) == 1 && i.Type.Wraps[0] == 1 {
			names = append(names, i.Type.Name)
		}
	}
	return names
}

// textOf returns all parts of a document as text.
func textOf(d api.Doc) string { return brief(fmt.Sprintf("%+v", d)) }

// checkFaults compares Check, with and without whole, with violations as text.
func checkFaults(t *testing.T, d api.Doc, want string) {
	t.Helper()
	given := clone(d)
	got := written(schema.Check(d, false))
	if got != want {
		t.Errorf("Check of %s is %s, not %s", textOf(d), brief(got), brief(want))
	}
	wantWhole := want
	if !slices.Contains(typeNames(d.Defs), "Query") {
		wantWhole = strings.TrimPrefix(want+", Root Query", ", ")
	}
	if got := written(schema.Check(d, true)); got != wantWhole {
		t.Errorf("Check of the whole %s is %s, not %s", textOf(d), brief(got), brief(wantWhole))
	}
	if !reflect.DeepEqual(d, given) {
		t.Errorf("Check changed %s to %s", textOf(given), textOf(d))
	}
}

func checkText(t *testing.T, s, want string) {
	t.Helper()
	checkFaults(t, parse(t, s), want)
}
