package schema_test

import (
	"math"
	"slices"
	"strings"
	"testing"

	"supergraph/api"
	"supergraph/schema"
)

// P10.3

func TestCheckExamples(t *testing.T) {
	checkText(t, "type A { x: B x(a: A): Int }", "None A.x, Twice A.x, Type A.x(a)")
	checkText(t, "input A { b: B! } input B { a: A! }", "Depth A, Depth B")
	checkText(t, "input A { b: B! } input B { a: A }", "")
	checkText(t, "input A { b: B! } input B { a: [A!]! }", "")
	checkText(t, "interface Query { x: Int }", "Kind Query")
	checkText(t, "type Query { me(id: ID! = 7, l: [I!]): User } type User implements N { id: ID! } interface N { id: ID! } union U = User enum E { R G } input I { e: E! = R i: I }", "")
}

// Each of these names stands once at each kind of position.
func TestCheckNames(t *testing.T) {
	allowed := []string{"a", "A", "_", "_a", "_1", "a__", "a1", "Float", "int", "Bool", "True", "NULL", "type", "input", "on", "query", "implements", strings.Repeat("n", 64), "_" + strings.Repeat("n_", 31)}
	for _, name := range allowed {
		checkNamed(t, name)
	}
	for _, name := range []string{"true", "false", "null"} {
		checkNamed(t, name, "E."+name)
	}
	wrong := []string{"", " ", "1", "1a", "-1", "a b", "a.b", "a-b", "a!", "$a", "@a", "é", "aé", "\xff", "a\x00", "\n", "a\n", "\"a\"", strings.Repeat("n", 65), strings.Repeat("n", 1000)}
	reserved := []string{"__", "___", "__a", "__typename", "__Type", "__1", "__" + strings.Repeat("n", 62)}
	both := []string{"__é", "__ ", "__" + strings.Repeat("n", 63)}
	for _, name := range slices.Concat(wrong, reserved, both) {
		checkNamed(t, name, name, "T."+name, "T.f("+name+")", "N."+name, "N.f("+name+")", "E."+name, "I."+name)
	}
}

// checkNamed expects ErrName at these places in a document that has one definition with this name, and
// fields, arguments, members and input fields with it.
func checkNamed(t *testing.T, name string, places ...string) {
	t.Helper()
	arg := []api.Input{input(name, ref("Int"))}
	fields := []api.Field{{Name: name, Type: ref("Int")}, {Name: "f", Type: ref("Int"), Args: arg}}
	d := doc(object(name, api.Field{Name: "x", Type: ref("Int")}), object("T", fields...), api.Def{Kind: api.DInterface, Name: "N", Fields: fields}, enum("E", name), inputType("I", arg...))
	var want []string
	for _, at := range places {
		want = append(want, "Name "+at)
	}
	checkFaults(t, d, strings.Join(want, ", "))
}

func TestCheckRepeatedDefinitions(t *testing.T) {
	checkText(t, "type A { x: Int } type A { x: Int }", "Twice A")
	checkText(t, "type A { x: Int } enum B { X } enum A { X } type A { x: Int } input B { x: Int }", "Twice A, Twice A, Twice B")
	checkText(t, "type Query { x: Int } type Query { x: Int }", "Twice Query")
	checkText(t, "type A { x: Int } type a { x: Int } type AA { x: Int }", "")
	// An earlier definition counts also if it breaks rules itself.
	checkFaults(t, doc(api.Def{Name: "A"}, enum("A", "X"), enum("__a", "X"), enum("__a", "X"), enum("", "X"), enum("", "X")), "Kind A, Twice A, Name __a, Name __a, Twice __a, Name , Name , Twice ")
}

// A scalar type cannot be defined: also the first definition of its name is one too many.
func TestCheckDefinedScalars(t *testing.T) {
	for _, name := range scalars() {
		checkText(t, "type "+name+" { x: Int }", "Twice "+name)
		checkText(t, "enum "+name+" { X } enum "+name+" { X } type A { x: "+name+" }", "Twice "+name+", Twice "+name)
	}
	checkText(t, "type Float { x: Int }", "")
}

// A definition with the name of a scalar type does not change what the name is as a type of a part: it
// fits everywhere, before and after the definition, within it, and in all wrappers.
func TestCheckUsesOfDefinedScalars(t *testing.T) {
	own := []api.Field{{Name: "y", Type: ref("A")}}
	members := []api.Member{{Name: "X"}}
	for _, name := range scalars() {
		for _, wraps := range [][]int{nil, {api.WNonNull}, {api.WList}, {api.WNonNull, api.WList, api.WNonNull}} {
			use := input("a", ref(name, wraps...))
			fields := []api.Field{{Name: "x", Type: use.Type, Args: []api.Input{use}}}
			before := []api.Def{object("A", fields...), {Kind: api.DInterface, Name: "N", Fields: fields}, inputType("I", use)}
			after := []api.Def{object("B", fields...), {Kind: api.DInterface, Name: "M", Fields: fields}, inputType("J", use)}
			for kind := api.DObject; kind <= api.DInput; kind++ {
				defined := api.Def{Kind: kind, Name: name, Fields: append(own, fields...), Members: members, Inputs: []api.Input{input("b", ref("I"))}}
				checkFaults(t, doc(slices.Concat(before, []api.Def{defined}, after)...), "Twice "+name)
			}
			defined := []api.Def{inputType(name, input("b", ref(name))), inputType(name, input("b", ref("I")))}
			checkFaults(t, doc(slices.Concat(before, defined, after)...), "Twice "+name+", Twice "+name)
		}
	}
	checkText(t, "type A { x: Int } input Int { y: ID }", "Twice Int")
	checkFaults(t, doc(api.Def{Kind: api.DObject, Fields: []api.Field{{Type: ref("Int")}}}, inputType("Int")), "Name , Name ., Twice Int, None Int")
	// Other names that are no scalar types are those of input types.
	checkText(t, "input Float { x: Int } input int { x: Int } type A { x: Float y: int z: [Float!]! }", "Type A.x, Type A.y, Type A.z")
}

func TestCheckEmptyDefinitions(t *testing.T) {
	fields := []api.Field{{Name: "x", Type: ref("Int")}}
	members := []api.Member{{Name: "X"}}
	inputs := []api.Input{input("x", ref("Int"))}
	for kind := api.DObject; kind <= api.DInput; kind++ {
		d := api.Def{Kind: kind, Name: "A"}
		checkFaults(t, doc(d), "None A")
		// Only the list of the kind counts.
		d.Fields, d.Members, d.Inputs = fields, members, inputs
		checkFaults(t, doc(d), "")
		switch kind {
		case api.DObject, api.DInterface:
			d.Fields = []api.Field{}
		case api.DUnion, api.DEnum:
			d.Members = []api.Member{}
		case api.DInput:
			d.Inputs = []api.Input{}
		}
		checkFaults(t, doc(d), "None A")
	}
	for _, kind := range []int{0, 6, -1} {
		checkFaults(t, doc(api.Def{Kind: kind, Name: "A"}), "Kind A")
	}
	checkFaults(t, doc(object("__a"), object("Int"), object("__a"), api.Def{Kind: api.DInterface, Name: "Query"}), "Name __a, None __a, Twice Int, None Int, Name __a, Twice __a, None __a, None Query, Kind Query")
}

func TestCheckRootTypes(t *testing.T) {
	for _, name := range []string{"Query", "Mutation", "Subscription"} {
		checkText(t, "type "+name+" { x: Int }", "")
		checkText(t, "interface "+name+" { x: Int }", "Kind "+name)
		checkText(t, "type A { x: Int } union "+name+" = A", "Kind "+name)
		checkText(t, "enum "+name+" { X }", "Kind "+name)
		checkText(t, "input "+name+" { x: Int }", "Kind "+name)
		checkText(t, "type "+name+" { x: Int } enum "+name+" { X }", "Twice "+name+", Kind "+name)
		checkFaults(t, doc(api.Def{Kind: 6, Name: name}), "Kind "+name)
		for _, other := range []string{strings.ToLower(name), name + "s", name[1:], "_" + name} {
			checkText(t, "enum "+other+" { X }", "")
		}
	}
	// Root types can be the types of fields, but not those of arguments.
	checkText(t, "type Query { q: Query! m: [Mutation] x(q: Query): Int } type Mutation { x: Int }", "Type Query.x(q)")
}

func TestCheckKinds(t *testing.T) {
	for _, kind := range []int{math.MinInt, -5, -1, 0, 6, 7, 100, math.MaxInt, 1 << 32, 1<<32 + 1, 1<<8 + 1} {
		d := api.Def{Kind: kind, Name: "A"}
		checkFaults(t, doc(d), "Kind A")
		// No part of such a definition is examined.
		d.Fields = []api.Field{{Name: "__x", Type: ref("Z"), Args: []api.Input{input("", ref("Z"))}}}
		d.Members = []api.Member{{Name: "true"}, {Name: "true"}}
		d.Inputs = []api.Input{input("a", ref("A", api.WNonNull))}
		checkFaults(t, doc(d), "Kind A")
		// Its name is defined, but no input type.
		checkFaults(t, doc(d, object("T", api.Field{Name: "x", Type: ref("A"), Args: []api.Input{input("a", ref("A"))}})), "Kind A, Type T.x(a)")
	}
}

// Lists that do not belong to the kind of a definition are not examined.
func TestCheckForeignParts(t *testing.T) {
	wrong := api.Def{
		Name:    "A",
		Fields:  []api.Field{{Name: "__x", Type: ref("Z"), Args: []api.Input{input("__a", ref("Z"))}}},
		Members: []api.Member{{Name: "true"}},
		Inputs:  []api.Input{input("__i", ref("Z")), input("a", ref("A", api.WNonNull))},
	}
	for kind, want := range map[int]string{
		api.DObject:    "Name A.__x, None A.__x, Name A.__x(__a), None A.__x(__a)",
		api.DInterface: "Name A.__x, None A.__x, Name A.__x(__a), None A.__x(__a)",
		api.DUnion:     "",
		api.DEnum:      "Name A.true",
		api.DInput:     "Depth A, Name A.__i, None A.__i",
	} {
		wrong.Kind = kind
		checkFaults(t, doc(wrong), want)
	}
}

func TestCheckFields(t *testing.T) {
	for _, kind := range []string{"type", "interface"} {
		types := " interface N { x: Int } type T { x: Int } union U = T enum E { X } input I { x: Int }"
		checkText(t, kind+" A { n: N t: [T!]! u: U! e: [[E]] s: String i: Int b: Boolean d: ID a: A }"+types, "")
		checkText(t, kind+" A { a: I b: [I!]! c: I! d: Z e: [Z!] f: Z! g: Float }"+types, "Type A.a, Type A.b, Type A.c, None A.d, None A.e, None A.f, None A.g")
		checkText(t, kind+" A { x: Int y: Int x: String x: I y: Z X: Int }"+types, "Twice A.x, Twice A.x, Type A.x, Twice A.y, None A.y")
		checkText(t, kind+" A { __x: I true: Z __x: Z false: Int null: Int }"+types, "Name A.__x, Type A.__x, None A.true, Name A.__x, Twice A.__x, None A.__x")
	}
	// Fields of other types, also of one with the same name, are not earlier fields of a type.
	checkText(t, "type A { x: Int } type B { x: Int } interface C { x: Int } type A { x: Int }", "Twice A")
	// Types are defined before and after their use, and in themselves.
	checkText(t, "type A { b: B a: A } type B { a: A }", "")
}

func TestCheckArguments(t *testing.T) {
	types := " interface N { x: Int } type T { x: Int } union U = T enum E { X } input I { x: Int }"
	for _, kind := range []string{"type", "interface"} {
		checkText(t, kind+" A { x(i: I! l: [[I!]] e: E s: String n: Int b: Boolean d: ID true: ID false: ID null: ID): Int }"+types, "")
		checkText(t, kind+" A { x(n: N t: [T!]! u: U! a: A z: Z f: Float!): Int y(q: [Z]): Int }"+types, "Type A.x(n), Type A.x(t), Type A.x(u), Type A.x(a), None A.x(z), None A.x(f), None A.y(q)")
		checkText(t, kind+" A { x(a: Int b: Int a: Z a: T b: I): Int y(a: Int): Int }"+types, "Twice A.x(a), None A.x(a), Twice A.x(a), Type A.x(a), Twice A.x(b)")
		// The arguments of a field come before the next field, and have places without number.
		checkText(t, kind+" A { x(__a: Z): Z x(__a: Z __a: U): I }"+types, "None A.x, Name A.x(__a), None A.x(__a), Twice A.x, Type A.x, Name A.x(__a), None A.x(__a), Name A.x(__a), Twice A.x(__a), Type A.x(__a)")
	}
}

func TestCheckInputs(t *testing.T) {
	types := " interface N { x: Int } type T { x: Int } union U = T enum E { X }"
	checkText(t, "input A { a: A b: [A!]! e: E! s: String n: Int f: Boolean d: ID true: ID false: ID null: ID }"+types, "")
	checkText(t, "input A { n: N t: [T!]! u: U! z: Z f: [Float!] }"+types, "Type A.n, Type A.t, Type A.u, None A.z, None A.f")
	checkText(t, "input A { x: Int y: Int x: Z x: U y: E X: Int }"+types, "Twice A.x, None A.x, Twice A.x, Type A.x, Twice A.y")
	checkText(t, "input A { x: Int } input B { x: Int } input A { x: Int }", "Twice A")
}

func TestCheckMembers(t *testing.T) {
	checkText(t, "enum A { X Y A Int Query x _ }", "")
	checkText(t, "enum A { X Y X X Y } enum B { X }", "Twice A.X, Twice A.X, Twice A.Y")
	checkFaults(t, doc(enum("A", "true", "false", "null", "True", "__x", "null", "1", "__x")), "Name A.true, Name A.false, Name A.null, Name A.__x, Name A.null, Twice A.null, Name A.1, Name A.__x, Twice A.__x")
	// Layer 11 examines the members of unions.
	checkText(t, "union A = A | Z | Z | Int | __x | true", "")
	checkFaults(t, doc(api.Def{Kind: api.DUnion, Name: "A", Members: []api.Member{{Name: ""}, {Name: "1"}, {Name: ""}}}), "")
}

// Default values, directives, and the interfaces of a type are examined by other layers.
func TestCheckIgnoresOtherParts(t *testing.T) {
	checkText(t, "type A implements A & Z & Z @__d @__d(__a: Z) { x(a: Int = null @true): Int @A } enum E { X @Z } input I { a: E = 1 @Z b: [I!]! = {} }", "")
}

// Names of definitions, fields and arguments do not hide each other, and stand in places as they are.
func TestCheckPlaces(t *testing.T) {
	fields := []api.Field{
		{Name: "a.b", Type: ref("Int"), Args: []api.Input{input("(", ref("")), input(".", ref("Int"))}},
		{Name: "", Type: ref(""), Args: []api.Input{input("", ref(""))}},
	}
	checkFaults(t, doc(object("\xff", fields...), object(")", fields...)),
		"Name \xff, Name \xff.a.b, Name \xff.a.b((), None \xff.a.b((), Name \xff.a.b(.), Name \xff., None \xff., Name \xff.(), None \xff.(), "+
			"Name ), Name ).a.b, Name ).a.b((), None ).a.b((), Name ).a.b(.), Name )., None )., Name ).(), None ).()")
	checkText(t, "type x { x(x: Int): x }", "")
}

// A type with an empty name is defined like any other one.
func TestCheckEmptyNameIsDefined(t *testing.T) {
	checkFaults(t, doc(object("", api.Field{Name: "x", Type: ref(""), Args: []api.Input{input("a", ref(""))}})), "Name , Type .x(a)")
}

func TestCheckRandomDocuments(t *testing.T) {
	count := map[string]int{}
	eachDocument(func(r source, d api.Doc) {
		want := written(expectedFaults(d, false))
		checkFaults(t, d, want)
		for _, x := range strings.Split(want, ", ") {
			count[strings.Split(x, " ")[0]]++
		}
	})
	for _, code := range []string{"Name", "Twice", "None", "Kind", "Type", "Depth", ""} {
		if count[code] < 100 {
			t.Errorf("only %d times %q", count[code], code)
		}
	}
}

func TestCheckAllKinds(t *testing.T) {
	eachKind([]string{"A", "Int", "Query"}, func(d api.Doc) {
		l := []api.Field{{Name: "x", Type: ref("A"), Args: []api.Input{input("a", ref("Int")), input("b", ref("Query")), input("c", ref("A"))}}, {Name: "y", Type: ref("Query")}, {Name: "z", Type: ref("Int")}}
		d.Defs = append(d.Defs, object("T", l...))
		checkFaults(t, d, written(expectedFaults(d, false)))
	})
}

// P10.5, for a document without any definition, too

func TestCheckWhole(t *testing.T) {
	for _, d := range []api.Doc{{}, {Defs: []api.Def{}}} {
		if l := schema.Check(d, false); len(l) != 0 {
			t.Error(l)
		}
		checkFaults(t, d, "")
	}
	if l := schema.Check(api.Doc{}, true); !slices.Equal(l, []api.Fault{{Err: api.ErrRoot, At: "Query"}}) {
		t.Error(l)
	}
	checkText(t, "type Mutation { x: Int } type Subscription { x: Int } type query { x: Int }", "")
	checkFaults(t, doc(api.Def{Name: "Query"}), "Kind Query")
	eachDocument(func(r source, d api.Doc) {
		without, with := schema.Check(d, false), schema.Check(d, true)
		if _, isFound := schema.Find(d, "Query"); !isFound {
			without = append(without, api.Fault{Err: api.ErrRoot, At: "Query"})
		}
		if !slices.Equal(without, with) {
			t.Errorf("%v: %v, but %v", d, without, with)
		}
	})
}
