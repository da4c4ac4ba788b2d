package schema_test

import (
	"reflect"
	"slices"
	"testing"

	"supergraph/api"
	"supergraph/schema"
)

// P10.2

func scalars() []string { return []string{"Int", "String", "Boolean", "ID"} }

func TestScalar(t *testing.T) {
	for _, name := range scalars() {
		if !schema.Scalar(name) {
			t.Errorf("%s is no scalar type", name)
		}
	}
	for _, name := range []string{"", "Float", "int", "INT", "Int ", " Int", "Int!", "[Int]", "Ints", "In", "string", "Strings", "boolean", "Bool", "Id", "id", "IDs", "I", "Query", "__Type", "null", "true", "ID\x00"} {
		if schema.Scalar(name) {
			t.Errorf("%q is a scalar type", name)
		}
	}
}

// firstKind returns the kind of the first definition with a name, or 0.
func firstKind(d api.Doc, name string) int {
	for _, x := range d.Defs {
		if x.Name == name {
			return x.Kind
		}
	}
	return 0
}

// checkClasses compares the three functions with what the chapter states.
func checkClasses(t *testing.T, d api.Doc, name string) {
	t.Helper()
	isScalar := slices.Contains(scalars(), name)
	kind := firstKind(d, name)
	wantLeaf := isScalar || kind == 4
	wantComposite := !isScalar && slices.Contains([]int{1, 2, 3}, kind)
	wantInput := isScalar || kind == 4 || kind == 5
	leaf, composite, input := schema.Leaf(d, name), schema.Composite(d, name), schema.IsInput(d, name)
	if leaf != wantLeaf || composite != wantComposite || input != wantInput {
		t.Errorf("in %v, %q is Leaf: %t, Composite: %t, IsInput: %t", d, name, leaf, composite, input)
	}
	if leaf && composite {
		t.Errorf("in %v, %q is Leaf and Composite", d, name)
	}
	if 1 <= kind && kind <= 5 && !isScalar && !composite && !input {
		t.Errorf("in %v, %q is neither Composite nor IsInput", d, name)
	}
}

func TestClassesExample(t *testing.T) {
	d := parse(t, "enum E { A } union U = T type T { x: Int } input I { a: E }")
	classes := []struct {
		is   func(d api.Doc, name string) bool
		want []string
	}{
		{schema.Leaf, []string{"E", "Int", "String", "Boolean", "ID"}},
		{schema.Composite, []string{"U", "T"}},
		{schema.IsInput, []string{"E", "Int", "String", "Boolean", "ID", "I"}},
	}
	for i, class := range classes {
		for _, name := range []string{"E", "U", "T", "I", "Int", "String", "Boolean", "ID", "A", "x", "a", "", "Z", "Float", "Query", "__typename"} {
			if class.is(d, name) != slices.Contains(class.want, name) {
				t.Errorf("class %d: %q", i, name)
			}
		}
	}
}

func TestClassesOfInterfaces(t *testing.T) {
	d := parse(t, "interface N { x: Int } type T implements N { x: Int }")
	if schema.Leaf(d, "N") || !schema.Composite(d, "N") || schema.IsInput(d, "N") {
		t.Error("N is Composite only")
	}
}

// Only the first definition of a name counts; scalar types stay leaf types, however they are defined.
func TestClassesOfAllKinds(t *testing.T) {
	names := []string{"A", "B", "Int", "ID", "Query"}
	eachKind(names, func(d api.Doc) {
		for _, name := range append(names, "", "C") {
			checkClasses(t, d, name)
		}
	})
}

func TestClassesOfRandomDocuments(t *testing.T) {
	eachDocument(func(r source, d api.Doc) {
		given := clone(d)
		for _, name := range []string{"A", "B", "C", "D", "Int", "Query", r.typeName(), r.oddName()} {
			checkClasses(t, d, name)
		}
		if !reflect.DeepEqual(d, given) {
			t.Errorf("%v became %v", given, d)
		}
	})
}
