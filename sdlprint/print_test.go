package sdlprint_test

import (
	"slices"
	"strings"
	"testing"

	"supergraph/api"
	"supergraph/sdl"
	"supergraph/sdlprint"
	"supergraph/typeref"
)

// P7.2

func checkPrint(t *testing.T, want string, l ...api.Def) {
	t.Helper()
	given := clone(doc(l...))
	if got := sdlprint.Print(doc(l...)); got != want {
		t.Errorf("Print is %q, not %q", brief(got), brief(want))
	}
	if !same(doc(l...), given) {
		t.Errorf("Print changed %q", brief(want))
	}
}

func tag(name string) []api.Dir {
	return []api.Dir{{Name: "tag", Args: []api.Arg{{Name: "name", Value: str(name)}}}}
}

func field(name, of string) api.Field { return api.Field{Name: name, Type: ref(of)} }

func TestPrintExamples(t *testing.T) {
	if got := sdlprint.Print(api.Doc{}) + sdlprint.Print(api.Doc{Defs: []api.Def{}}); got != "" {
		t.Errorf("Print without definitions is %q", got)
	}
	query := api.Def{Kind: api.DObject, Name: "Query", Implements: []string{"A", "B"}, Dirs: tag("x"), Fields: []api.Field{{
		Name: "me",
		Args: []api.Input{{Name: "id", Type: ref("ID", api.WNonNull)}, {Name: "n", Type: ref("Int"), Has: true, Default: number(3)}},
		Type: ref("User"), Dirs: []api.Dir{{Name: "deprecated"}},
	}}}
	union := api.Def{Kind: api.DUnion, Name: "U", Members: []api.Member{{Name: "User"}, {Name: "Query"}}}
	first := "type Query implements A & B @tag(name: \"x\") {\n  me(id: ID!, n: Int = 3): User @deprecated\n}\n"
	second := "union U = User | Query\n"
	checkPrint(t, first, query)
	checkPrint(t, second, union)
	checkPrint(t, first+"\n"+second, query, union)
	checkPrint(t, second+"\n"+second+"\n"+first, union, union, query)
}

func TestPrintObjects(t *testing.T) {
	d := api.Def{Kind: api.DObject, Name: "A", Fields: []api.Field{field("x", "B")}}
	checkPrint(t, "type A {\n  x: B\n}\n", d)
	d.Implements, d.Dirs = []string{}, []api.Dir{}
	checkPrint(t, "type A {\n  x: B\n}\n", d)
	d.Implements = []string{"I"}
	checkPrint(t, "type A implements I {\n  x: B\n}\n", d)
	d.Implements = []string{"J", "I", "J", "implements"}
	checkPrint(t, "type A implements J & I & J & implements {\n  x: B\n}\n", d)
	d.Dirs = append(tag("t"), api.Dir{Name: "e"})
	checkPrint(t, "type A implements J & I & J & implements @tag(name: \"t\") @e {\n  x: B\n}\n", d)
	d.Implements = nil
	d.Fields = []api.Field{field("y", "B"), field("x", "A"), field("type", "type")}
	checkPrint(t, "type A @tag(name: \"t\") @e {\n  y: B\n  x: A\n  type: type\n}\n", d)
}

func TestPrintInterfaces(t *testing.T) {
	d := api.Def{Kind: api.DInterface, Name: "A", Fields: []api.Field{field("x", "B")}}
	checkPrint(t, "interface A {\n  x: B\n}\n", d)
	d.Dirs = []api.Dir{{Name: "d"}, {Name: "e"}}
	d.Fields = []api.Field{{Name: "y", Args: []api.Input{{Name: "a", Type: ref("Int")}}, Type: ref("B"), Dirs: tag("")}, field("x", "A")}
	checkPrint(t, "interface A @d @e {\n  y(a: Int): B @tag(name: \"\")\n  x: A\n}\n", d)
}

func TestPrintUnions(t *testing.T) {
	d := api.Def{Kind: api.DUnion, Name: "U", Members: []api.Member{{Name: "A"}}}
	checkPrint(t, "union U = A\n", d)
	d.Members = []api.Member{{Name: "B"}, {Name: "A"}, {Name: "B"}}
	checkPrint(t, "union U = B | A | B\n", d)
	d.Dirs = tag("x")
	checkPrint(t, "union U @tag(name: \"x\") = B | A | B\n", d)
	d.Dirs = append(d.Dirs, api.Dir{Name: "d"})
	checkPrint(t, "union U @tag(name: \"x\") @d = B | A | B\n", d)
}

func TestPrintEnumerations(t *testing.T) {
	d := api.Def{Kind: api.DEnum, Name: "E", Members: []api.Member{{Name: "A"}}}
	checkPrint(t, "enum E {\n  A\n}\n", d)
	d.Dirs = append(tag("e"), api.Dir{Name: "d"})
	d.Members = []api.Member{{Name: "true"}, {Name: "A", Dirs: append(tag("a"), tag("b")...)}, {Name: "C", Dirs: []api.Dir{{Name: "d"}}}}
	checkPrint(t, "enum E @tag(name: \"e\") @d {\n  true\n  A @tag(name: \"a\") @tag(name: \"b\")\n  C @d\n}\n", d)
}

func TestPrintInputs(t *testing.T) {
	d := api.Def{Kind: api.DInput, Name: "I", Inputs: []api.Input{{Name: "a", Type: ref("Int")}}}
	checkPrint(t, "input I {\n  a: Int\n}\n", d)
	d.Dirs = []api.Dir{{Name: "d"}}
	d.Inputs = []api.Input{
		{Name: "b", Type: ref("Int", api.WNonNull), Has: true, Default: number(-1), Dirs: tag("b")},
		{Name: "a", Type: ref("Int", api.WList), Has: true, Default: api.Value{}},
		{Name: "c", Type: ref("Int"), Dirs: append(tag("c"), api.Dir{Name: "d"})},
		{Name: "d", Type: ref("J"), Has: true, Default: object("a b", listOf(str("x")), enum("RED"))},
	}
	checkPrint(t, "input I @d {\n  b: Int! = -1 @tag(name: \"b\")\n  a: [Int] = null\n  c: Int @tag(name: \"c\") @d\n  d: J = {a: [\"x\"], b: RED}\n}\n", d)
}

func TestPrintFields(t *testing.T) {
	check := func(want string, f api.Field) {
		t.Helper()
		for kind, word := range map[int]string{api.DObject: "type", api.DInterface: "interface"} {
			checkPrint(t, word+" A {\n  "+want+"\n}\n", api.Def{Kind: kind, Name: "A", Fields: []api.Field{f}})
			checkPrint(t, word+" A {\n  "+want+"\n  y: B\n  "+want+"\n}\n", api.Def{Kind: kind, Name: "A", Fields: []api.Field{f, field("y", "B"), f}})
		}
	}
	check("x: B!", api.Field{Name: "x", Type: ref("B", api.WNonNull)})
	check("x: [[B!]]!", api.Field{Name: "x", Type: ref("B", api.WNonNull, api.WList, api.WList, api.WNonNull)})
	check("x: B", api.Field{Name: "x", Type: ref("B"), Args: []api.Input{}, Dirs: []api.Dir{}})
	check("x: B @d @e", api.Field{Name: "x", Type: ref("B"), Dirs: []api.Dir{{Name: "d"}, {Name: "e"}}})
	a := api.Input{Name: "a", Type: ref("Int", api.WList, api.WNonNull)}
	check("x(a: [Int!]): B", api.Field{Name: "x", Args: []api.Input{a}, Type: ref("B")})
	a.Has, a.Default = true, listOf()
	check("x(a: [Int!] = []): B", api.Field{Name: "x", Args: []api.Input{a}, Type: ref("B")})
	a.Dirs = append(tag("a"), api.Dir{Name: "d"})
	check("x(a: [Int!] = [] @tag(name: \"a\") @d, b: C): [B] @tag(name: \"x\")",
		api.Field{Name: "x", Args: []api.Input{a, {Name: "b", Type: ref("C")}}, Type: ref("B", api.WList), Dirs: tag("x")})
	a.Has, a.Default = false, api.Value{}
	check("x(b: C, a: [Int!] @tag(name: \"a\") @d, b: C): B",
		api.Field{Name: "x", Args: []api.Input{{Name: "b", Type: ref("C")}, a, {Name: "b", Type: ref("C")}}, Type: ref("B")})
}

// An independent way to the same text: the lines of each definition.
func expectedLines(d api.Def) []string {
	words := map[int]string{api.DObject: "type", api.DInterface: "interface", api.DUnion: "union", api.DEnum: "enum", api.DInput: "input"}
	first := []string{words[d.Kind], d.Name}
	if len(d.Implements) > 0 {
		first = append(first, "implements", strings.Join(d.Implements, " & "))
	}
	first = withDirectives(first, d.Dirs)
	var members, lines []string
	for _, m := range d.Members {
		members = append(members, m.Name)
		lines = append(lines, expectedLine([]string{m.Name}, m.Dirs))
	}
	if d.Kind == api.DUnion {
		return []string{strings.Join(append(first, "=", strings.Join(members, " | ")), " ")}
	}
	for _, f := range d.Fields {
		name := f.Name
		if len(f.Args) > 0 {
			name += "(" + strings.Join(expectedInputs(f.Args), ", ") + ")"
		}
		lines = append(lines, expectedLine([]string{name + ":", typeref.Print(f.Type)}, f.Dirs))
	}
	lines = append(lines, expectedInputs(d.Inputs)...)
	for i := range lines {
		lines[i] = "  " + lines[i]
	}
	return slices.Concat([]string{strings.Join(append(first, "{"), " ")}, lines, []string{"}"})
}

func withDirectives(parts []string, dirs []api.Dir) []string {
	for _, d := range dirs {
		parts = append(parts, expectedDirectives([]api.Dir{d}))
	}
	return parts
}

func expectedLine(parts []string, dirs []api.Dir) string {
	return strings.Join(withDirectives(parts, dirs), " ")
}

func expectedInputs(l []api.Input) []string {
	var lines []string
	for _, i := range l {
		parts := []string{i.Name + ":", typeref.Print(i.Type)}
		if i.Has {
			parts = append(parts, "=", expectedValue(i.Default))
		}
		lines = append(lines, expectedLine(parts, i.Dirs))
	}
	return lines
}

func TestPrintRandomDocuments(t *testing.T) {
	eachRight(func(_ source, d api.Doc) {
		if t.Failed() {
			return
		}
		if !sdl.Right(d) {
			t.Errorf("%v is not right", d)
		}
		want := ""
		for i, x := range d.Defs {
			lines := expectedLines(x)
			if i > 0 {
				want += "\n"
			}
			want += strings.Join(lines, "\n") + "\n"
		}
		checkPrint(t, want, d.Defs...)
	})
}

// The lists have as many elements as the limits allow.
func TestPrintAtTheLimits(t *testing.T) {
	input := api.Input{Name: "a", Type: ref("B"), Dirs: slices.Repeat([]api.Dir{{Name: "d", Args: slices.Repeat([]api.Arg{{Name: "a"}}, 16)}}, 16)}
	full := "a: B" + strings.Repeat(" @d("+strings.Repeat("a: null, ", 15)+"a: null)", 16)
	f := api.Field{Name: "x", Args: slices.Repeat([]api.Input{input}, 16), Type: ref("B", slices.Repeat([]int{api.WNonNull, api.WList}, 12)...)}
	d := api.Def{Kind: api.DObject, Name: "A", Implements: slices.Repeat([]string{"I"}, 64), Fields: slices.Repeat([]api.Field{f}, 64)}
	line := "  x(" + strings.Repeat(full+", ", 15) + full + "): " + strings.Repeat("[", 12) + "B" + strings.Repeat("]!", 12) + "\n"
	want := "type A implements " + strings.Repeat("I & ", 63) + "I {\n" + strings.Repeat(line, 64) + "}\n"
	if !sdl.Right(doc(d)) {
		t.Error("not right")
	}
	checkPrint(t, want, d)
	checkPrint(t, want+strings.Repeat("\n"+want, 3), d, d, d, d)
	union := api.Def{Kind: api.DUnion, Name: "U", Members: slices.Repeat([]api.Member{{Name: "A"}}, 64)}
	want = "union U = " + strings.Repeat("A | ", 63) + "A\n"
	checkPrint(t, strings.Repeat(want+"\n", 63)+want, slices.Repeat([]api.Def{union}, 64)...)
}

// R1: the text of documents that are not right is not specified, but there is one.
func TestPrintOfWrongDocuments(t *testing.T) {
	for _, kind := range []int{-1 << 63, -1, 0, 1, 2, 3, 4, 5, 6, 1 << 40} {
		sdlprint.Print(doc(api.Def{Kind: kind}))
		sdlprint.Print(doc(api.Def{Kind: kind, Members: []api.Member{{Name: "A", Dirs: tag("x")}}, Inputs: []api.Input{{}}, Fields: []api.Field{{}}}, api.Def{Kind: kind}))
	}
	eachWild(func(_ source, d api.Doc) { sdlprint.Print(d) })
}
