package schema_test

import (
	"math"
	"reflect"
	"strconv"
	"testing"

	"supergraph/api"
	"supergraph/schema"
)

// P10.1

func checkFind(t *testing.T, d api.Doc, name string, index int) {
	t.Helper()
	var want api.Def
	if index >= 0 {
		want = clone(d.Defs[index])
	}
	got, isFound := schema.Find(d, name)
	if !reflect.DeepEqual(got, want) || isFound != (index >= 0) {
		t.Errorf("Find of %q is %v, %t", name, got, isFound)
	}
}

func checkField(t *testing.T, d api.Def, name string, index int) {
	t.Helper()
	var want api.Field
	if index >= 0 {
		want = clone(d.Fields[index])
	}
	got, isFound := schema.FieldOf(d, name)
	if !reflect.DeepEqual(got, want) || isFound != (index >= 0) {
		t.Errorf("FieldOf of %q is %v, %t", name, got, isFound)
	}
}

func checkInput(t *testing.T, l []api.Input, name string, index int) {
	t.Helper()
	var want api.Input
	if index >= 0 {
		want = clone(l[index])
	}
	got, isFound := schema.InputOf(l, name)
	if !reflect.DeepEqual(got, want) || isFound != (index >= 0) {
		t.Errorf("InputOf of %q is %v, %t", name, got, isFound)
	}
}

func TestFindExamples(t *testing.T) {
	d := parse(t, "type A { x: Int }")
	checkFind(t, d, "A", 0)
	checkFind(t, d, "Int", -1)
	checkField(t, d.Defs[0], "x", 0)
	checkInput(t, nil, "x", -1)
	checkInput(t, []api.Input{}, "", -1)
}

func TestFind(t *testing.T) {
	d := parse(t, "type A implements I @d(n: 1) { x(a: Int = 1): Int @e } interface I { x: Int } union U = A enum E { R @f } input N { a: E = R @g }")
	for i, name := range []string{"A", "I", "U", "E", "N"} {
		checkFind(t, d, name, i)
	}
	for _, name := range []string{"", "a", "AA", "A ", " A", "B", "x", "R", "Int", "String", "Boolean", "ID", "Query", "__Type"} {
		checkFind(t, d, name, -1)
	}
	for _, name := range []string{"", "A", "Int"} {
		checkFind(t, api.Doc{}, name, -1)
	}
}

// Of several definitions, fields or inputs with one name, the first one is found, whatever it is.
func TestFindTheFirst(t *testing.T) {
	d := doc(object("B"), enum("A", "X"), object("A"), inputType("A"), api.Def{Name: "B", Kind: 9}, api.Def{Kind: -1}, object(""), inputType("Int"), enum("Int"))
	checkFind(t, d, "A", 1)
	checkFind(t, d, "B", 0)
	checkFind(t, d, "", 5)
	checkFind(t, d, "Int", 7)
	fields := []api.Field{{Name: "b"}, {Name: "a", Type: ref("A")}, {Name: "a", Type: ref("B")}, {Name: ""}, {Name: "", Type: ref("C")}, {Name: "b"}}
	checkField(t, object("A", fields...), "a", 1)
	checkField(t, object("A", fields...), "b", 0)
	checkField(t, object("A", fields...), "", 3)
	inputs := []api.Input{input("b", ref("A")), input("a", ref("B")), input("a", ref("C")), input("", ref("D")), input("b", ref("E"))}
	checkInput(t, inputs, "a", 1)
	checkInput(t, inputs, "b", 0)
	checkInput(t, inputs, "", 3)
}

func TestFieldOf(t *testing.T) {
	d := parse(t, "type A { x(a: Int): Int y: [A!]! @d z: B }").Defs[0]
	for kind := -1; kind < 7; kind++ {
		d.Kind = kind
		for i, name := range []string{"x", "y", "z"} {
			checkField(t, d, name, i)
		}
		for _, name := range []string{"", "X", "xx", "a", "A", "Int", "__typename"} {
			checkField(t, d, name, -1)
		}
	}
	d.Fields = append(d.Fields, api.Field{Name: "__typename", Type: ref("Int")})
	checkField(t, d, "__typename", 3)
	checkField(t, api.Def{Kind: api.DEnum, Members: []api.Member{{Name: "a"}}}, "a", -1)
	checkField(t, inputType("A", input("a", ref("Int"))), "a", -1)
}

func TestInputOf(t *testing.T) {
	l := parse(t, "input A { x: Int y: [A!]! = [] @d z: B = 1 }").Defs[0].Inputs
	for i, name := range []string{"x", "y", "z"} {
		checkInput(t, l, name, i)
		checkInput(t, l[:i], name, -1)
	}
	for _, name := range []string{"", "X", "xx", "A", "Int", "__typename"} {
		checkInput(t, l, name, -1)
	}
}

func TestFindInRandomDocuments(t *testing.T) {
	eachDocument(func(r source, d api.Doc) {
		given := clone(d)
		name := r.typeName()
		index := -1
		for i := len(d.Defs) - 1; i >= 0; i-- {
			if d.Defs[i].Name == name {
				index = i
			}
		}
		checkFind(t, d, name, index)
		part := r.partName()
		for _, x := range d.Defs {
			field, input := -1, -1
			for i := len(x.Fields) - 1; i >= 0; i-- {
				if x.Fields[i].Name == part {
					field = i
				}
			}
			for i := len(x.Inputs) - 1; i >= 0; i-- {
				if x.Inputs[i].Name == part {
					input = i
				}
			}
			checkField(t, x, part, field)
			checkInput(t, x.Inputs, part, input)
		}
		if !reflect.DeepEqual(d, given) {
			t.Errorf("%v became %v", given, d)
		}
	})
}

func TestFindInLongLists(t *testing.T) {
	const count = 1 << 16
	var d api.Doc
	var fields []api.Field
	var inputs []api.Input
	for i := range count {
		name := "n" + strconv.Itoa(i)
		d.Defs = append(d.Defs, object(name))
		fields = append(fields, api.Field{Name: name})
		inputs = append(inputs, input(name, ref(name)))
	}
	for _, i := range []int{0, 1, 63, 64, count - 1} {
		name := "n" + strconv.Itoa(i)
		checkFind(t, d, name, i)
		checkField(t, object("A", fields...), name, i)
		checkInput(t, inputs, name, i)
	}
	checkFind(t, d, "n", -1)
	checkField(t, object("A", fields...), "n", -1)
	checkInput(t, inputs, "n", -1)
}

func TestRoot(t *testing.T) {
	want := map[int]string{api.OQuery: "Query", api.OMutation: "Mutation", api.OSubscription: "Subscription"}
	if want[1] != "Query" || want[2] != "Mutation" || want[3] != "Subscription" {
		t.Error("the kinds of operations are not 1 to 3")
	}
	numbers := []int{math.MinInt, math.MinInt + 1, math.MaxInt, 1 << 32, 1<<32 + 1, 1<<32 + 2, 1<<8 + 1}
	for i := -300; i < 300; i++ {
		numbers = append(numbers, i)
	}
	for _, kind := range numbers {
		if got := schema.Root(kind); got != want[kind] {
			t.Errorf("Root of %d is %q", kind, got)
		}
	}
}
