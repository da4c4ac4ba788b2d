package sdl_test

import (
	"slices"
	"strings"
	"testing"

	"supergraph/api"
	"supergraph/sdl"
)

// P6.2

func rightInput() api.Input { return api.Input{Name: "a", Type: ref("A")} }

// plainDef returns the smallest right definition of a kind.
func plainDef(kind int) api.Def {
	d := api.Def{Kind: kind, Name: "A"}
	switch kind {
	case api.DObject, api.DInterface:
		d.Fields = []api.Field{simple("x", "A")}
	case api.DUnion, api.DEnum:
		d.Members = []api.Member{{Name: "A"}}
	case api.DInput:
		d.Inputs = []api.Input{rightInput()}
	}
	return d
}

// kinds of definitions in their order.
func kinds() []int { return []int{api.DObject, api.DInterface, api.DUnion, api.DEnum, api.DInput} }

func checkIs(t *testing.T, want bool, d ...api.Def) {
	t.Helper()
	if got := sdl.Right(api.Doc{Defs: d}); got != want {
		t.Errorf("Right(%v) is %v", brief(write(api.Doc{Defs: d}).text()), got)
	}
}

// checkTurn expects that the change of a right definition makes it right or not.
func checkTurn(t *testing.T, want bool, kind int, turn func(d *api.Def)) {
	t.Helper()
	d := plainDef(kind)
	turn(&d)
	checkIs(t, want, d)
	checkIs(t, want, plainDef(api.DUnion), d)
	checkIs(t, want, d, plainDef(api.DObject))
}

func TestRightNumberOfDefinitions(t *testing.T) {
	checkIs(t, false)
	if sdl.Right(api.Doc{Defs: []api.Def{}}) {
		t.Error("a document without definitions")
	}
	for _, kind := range kinds() {
		for count := 1; count <= 66; count++ {
			checkIs(t, count <= 64, slices.Repeat([]api.Def{plainDef(kind)}, count)...)
		}
	}
}

func TestRightKinds(t *testing.T) {
	for _, kind := range kinds() {
		checkIs(t, true, plainDef(kind))
		for _, wrong := range []int{0, -1, 6, 7, 257, 1 << 40, -1 << 63} {
			checkTurn(t, false, kind, func(d *api.Def) { d.Kind = wrong })
		}
	}
	checkIs(t, false, api.Def{})
	checkIs(t, false, api.Def{Name: "A"})
}

// Each kind has certain lists; one of them must not be empty, and all other ones must be.
func TestRightLists(t *testing.T) {
	full := api.Def{
		Name: "A", Implements: []string{"I"}, Dirs: []api.Dir{{Name: "d"}}, Fields: []api.Field{simple("x", "A")},
		Members: []api.Member{{Name: "A"}}, Inputs: []api.Input{rightInput()},
	}
	for subset := range 32 {
		for _, kind := range kinds() {
			d := full
			d.Kind = kind
			if subset&1 == 0 {
				d.Implements = nil
			}
			if subset&2 == 0 {
				d.Fields = []api.Field{}
			}
			if subset&4 == 0 {
				d.Members = nil
			}
			if subset&8 == 0 {
				d.Inputs = nil
			}
			if subset&16 == 0 {
				d.Dirs = []api.Dir{}
			}
			possible := map[int][]int{api.DObject: {2, 3}, api.DInterface: {2}, api.DUnion: {4}, api.DEnum: {4}, api.DInput: {8}}
			checkIs(t, slices.Contains(possible[kind], subset&15), d)
		}
	}
}

func TestRightLengths(t *testing.T) {
	for count := range 131 {
		upTo := func(most int) bool { return count <= most }
		some := func(most int) bool { return 1 <= count && count <= most }
		checkTurn(t, upTo(64), api.DObject, func(d *api.Def) { d.Implements = slices.Repeat([]string{"I"}, count) })
		for _, kind := range []int{api.DObject, api.DInterface} {
			checkTurn(t, some(64), kind, func(d *api.Def) { d.Fields = slices.Repeat(d.Fields, count) })
			checkTurn(t, upTo(16), kind, func(d *api.Def) { d.Fields[0].Args = slices.Repeat([]api.Input{rightInput()}, count) })
		}
		for _, kind := range []int{api.DUnion, api.DEnum} {
			checkTurn(t, some(64), kind, func(d *api.Def) { d.Members = slices.Repeat(d.Members, count) })
		}
		checkTurn(t, some(16), api.DInput, func(d *api.Def) { d.Inputs = slices.Repeat(d.Inputs, count) })
		eachDirectives(func(kind int, set func(d *api.Def, l []api.Dir)) {
			checkTurn(t, upTo(16), kind, func(d *api.Def) { set(d, slices.Repeat([]api.Dir{{Name: "d"}}, count)) })
			checkTurn(t, upTo(16), kind, func(d *api.Def) {
				set(d, []api.Dir{{Name: "d"}, {Name: "e", Args: slices.Repeat([]api.Arg{{Name: "a"}}, count)}})
			})
		})
	}
}

// eachInput calls visit for every place of arguments and input fields.
func eachInput(visit func(kind int, set func(d *api.Def, i api.Input))) {
	for _, kind := range []int{api.DObject, api.DInterface} {
		visit(kind, func(d *api.Def, i api.Input) { d.Fields[0].Args = []api.Input{i} })
		visit(kind, func(d *api.Def, i api.Input) {
			d.Fields = append(d.Fields, api.Field{Name: "y", Args: []api.Input{rightInput(), i}, Type: ref("A")})
		})
	}
	visit(api.DInput, func(d *api.Def, i api.Input) { d.Inputs = []api.Input{i} })
	visit(api.DInput, func(d *api.Def, i api.Input) { d.Inputs = append(d.Inputs, i, rightInput()) })
}

// eachDirectives calls visit for every place of directives.
func eachDirectives(visit func(kind int, set func(d *api.Def, l []api.Dir))) {
	for _, kind := range kinds() {
		visit(kind, func(d *api.Def, l []api.Dir) { d.Dirs = l })
	}
	for _, kind := range []int{api.DObject, api.DInterface} {
		visit(kind, func(d *api.Def, l []api.Dir) { d.Fields[0].Dirs = l })
		visit(kind, func(d *api.Def, l []api.Dir) {
			d.Fields = append(d.Fields, api.Field{Name: "y", Type: ref("A"), Dirs: l})
		})
	}
	visit(api.DEnum, func(d *api.Def, l []api.Dir) { d.Members[0].Dirs = l })
	visit(api.DEnum, func(d *api.Def, l []api.Dir) { d.Members = append(d.Members, api.Member{Name: "B", Dirs: l}) })
	eachInput(func(kind int, set func(d *api.Def, i api.Input)) {
		visit(kind, func(d *api.Def, l []api.Dir) { set(d, api.Input{Name: "b", Type: ref("A"), Dirs: l}) })
	})
}

func TestUnionMembersHaveNoDirectives(t *testing.T) {
	checkTurn(t, false, api.DUnion, func(d *api.Def) { d.Members[0].Dirs = []api.Dir{{Name: "d"}} })
	checkTurn(t, false, api.DUnion, func(d *api.Def) {
		d.Members = []api.Member{{Name: "A"}, {Name: "B", Dirs: []api.Dir{{Name: "d"}}}, {Name: "C"}}
	})
	checkTurn(t, true, api.DUnion, func(d *api.Def) { d.Members[0].Dirs = []api.Dir{} })
	checkTurn(t, true, api.DEnum, func(d *api.Def) { d.Members[0].Dirs = []api.Dir{{Name: "d"}} })
}

func TestRightNames(t *testing.T) {
	check := func(want bool, name string) {
		for _, kind := range kinds() {
			checkTurn(t, want, kind, func(d *api.Def) { d.Name = name })
		}
		checkTurn(t, want, api.DObject, func(d *api.Def) { d.Implements = []string{name} })
		checkTurn(t, want, api.DObject, func(d *api.Def) { d.Implements = []string{"I", name, "J"} })
		for _, kind := range []int{api.DObject, api.DInterface} {
			checkTurn(t, want, kind, func(d *api.Def) { d.Fields[0].Name = name })
			checkTurn(t, want, kind, func(d *api.Def) { d.Fields = append(d.Fields, simple(name, "A")) })
			checkTurn(t, want, kind, func(d *api.Def) { d.Fields[0].Type.Name = name })
		}
		for _, kind := range []int{api.DUnion, api.DEnum} {
			checkTurn(t, want, kind, func(d *api.Def) { d.Members[0].Name = name })
			checkTurn(t, want, kind, func(d *api.Def) { d.Members = append(d.Members, api.Member{Name: name}) })
		}
		eachInput(func(kind int, set func(d *api.Def, i api.Input)) {
			checkTurn(t, want, kind, func(d *api.Def) { set(d, api.Input{Name: name, Type: ref("A")}) })
			checkTurn(t, want, kind, func(d *api.Def) { set(d, api.Input{Name: "b", Type: ref(name)}) })
		})
		eachDirectives(func(kind int, set func(d *api.Def, l []api.Dir)) {
			checkTurn(t, want, kind, func(d *api.Def) { set(d, []api.Dir{{Name: name}}) })
			checkTurn(t, want, kind, func(d *api.Def) { set(d, []api.Dir{{Name: "d"}, {Name: name}}) })
			checkTurn(t, want, kind, func(d *api.Def) { set(d, []api.Dir{{Name: "d", Args: []api.Arg{{Name: name}}}}) })
			checkTurn(t, want, kind, func(d *api.Def) {
				set(d, []api.Dir{{Name: "d"}, {Name: "d", Args: []api.Arg{{Name: "a"}, {Name: name}}}})
			})
		})
	}
	for _, name := range []string{"b", "_", "__typename", "type", "implements", "true", "null", "on", "A1", strings.Repeat("n", 64)} {
		check(true, name)
	}
	for _, name := range []string{"", "1", "a b", "a-", " a", "a\n", "@d", "é", "\xff", "a\x00", "a!", "$a", strings.Repeat("n", 65)} {
		check(false, name)
	}
}

func TestRightTypes(t *testing.T) {
	long := func(wraps ...int) []int { return slices.Repeat(wraps, 100)[:24] }
	check := func(want bool, wraps ...int) {
		for _, kind := range []int{api.DObject, api.DInterface} {
			checkTurn(t, want, kind, func(d *api.Def) { d.Fields[0].Type.Wraps = wraps })
			checkTurn(t, want, kind, func(d *api.Def) {
				d.Fields = append(d.Fields, api.Field{Name: "y", Type: ref("B", wraps...)})
			})
		}
		eachInput(func(kind int, set func(d *api.Def, i api.Input)) {
			checkTurn(t, want, kind, func(d *api.Def) { set(d, api.Input{Name: "b", Type: ref("B", wraps...)}) })
		})
	}
	check(true)
	check(true, 1)
	check(true, 2)
	check(true, 1, 2, 1)
	check(true, 2, 2, 1)
	check(true, long(2)...)
	check(true, long(1, 2)...)
	check(true, long(2, 1)...)
	check(false, 0)
	check(false, 3)
	check(false, -1)
	check(false, 1, 1)
	check(false, 2, 1, 1)
	check(false, append(long(2), 2)...)
	check(false, append(long(2), 1)...)
	check(false, append(long(1, 2), 1)...)
}

// nested returns v in so many lists.
func nested(v api.Value, levels int) api.Value {
	for range levels {
		v = listOf(v)
	}
	return v
}

func TestRightValues(t *testing.T) {
	check := func(want bool, v api.Value) {
		t.Helper()
		eachInput(func(kind int, set func(d *api.Def, i api.Input)) {
			checkTurn(t, want, kind, func(d *api.Def) { set(d, api.Input{Name: "b", Type: ref("B"), Has: true, Default: v}) })
		})
		eachDirectives(func(kind int, set func(d *api.Def, l []api.Dir)) {
			checkTurn(t, want, kind, func(d *api.Def) { set(d, []api.Dir{{Name: "d", Args: []api.Arg{{Name: "a", Value: v}}}}) })
			checkTurn(t, want, kind, func(d *api.Def) {
				set(d, []api.Dir{{Name: "d"}, {Name: "d", Args: []api.Arg{{Name: "a"}, {Name: "b", Value: v}}}})
			})
		})
	}
	for _, v := range []api.Value{
		{}, number(0), number(-1 << 63), str(""), str("\xff\n"), enum("RED"), {Kind: api.VBool}, {Kind: api.VBool, Int: 1}, listOf(), object(""),
		listOf(number(1), object("a b", enum("A"), listOf())), nested(number(1), 23),
		{Kind: api.VList, Items: make([]api.Value, 4095)},
	} {
		check(true, v)
	}
	for _, v := range []api.Value{
		{Kind: api.VVar, Text: "a"}, listOf(api.Value{Kind: api.VVar, Text: "a"}), object("a b", number(1), api.Value{Kind: api.VVar, Text: "a"}),
		object("a", listOf(api.Value{Kind: api.VVar, Text: "a"})),
		{Kind: api.VRef}, {Kind: api.VFail}, {Kind: api.VFail, Text: "leaf"}, {Kind: -1}, {Kind: 10}, {Int: 1}, {Text: "a"}, {Kind: api.VBool, Int: 2}, {Kind: api.VInt, Text: "a"},
		{Kind: api.VText, Int: 1}, {Keys: []string{"a"}}, {Items: []api.Value{{}}}, enum(""), enum("1"), enum("true"), enum("false"), enum("null"), enum("a b"),
		object("a a", number(1), number(2)), object("a"), object("", number(1)), object("1", number(1)), object("a-b", number(1)),
		{Kind: api.VObject, Keys: []string{""}, Items: []api.Value{{}}}, {Kind: api.VObject, Keys: []string{"a b"}, Items: []api.Value{{}}},
		nested(number(1), 24), listOf(enum("true")), object("a", object("a a", number(1), number(1))),
		{Kind: api.VList, Items: make([]api.Value, 4096)},
	} {
		check(false, v)
	}
}

// Without a default value, Default is the zero value in all parts.
func TestRightWithoutADefault(t *testing.T) {
	check := func(want bool, v api.Value) {
		eachInput(func(kind int, set func(d *api.Def, i api.Input)) {
			checkTurn(t, want, kind, func(d *api.Def) { set(d, api.Input{Name: "b", Type: ref("B"), Default: v}) })
		})
	}
	check(true, api.Value{})
	check(true, api.Value{Items: []api.Value{}, Keys: []string{}})
	for _, v := range []api.Value{
		{Kind: api.VBool}, {Kind: api.VInt}, {Kind: api.VText}, {Kind: api.VEnum}, {Kind: api.VEnum, Text: "A"}, {Kind: api.VList}, {Kind: api.VObject}, {Kind: api.VVar},
		{Kind: -1}, {Int: 1}, {Text: "a"}, {Keys: []string{"a"}}, {Keys: []string{""}}, {Items: []api.Value{{}}}, {Keys: []string{"a"}, Items: []api.Value{{}}}, number(1), str("a"),
	} {
		check(false, v)
	}
}

// A value whose items contain itself has too many levels.
func TestRightOfEndlessValues(t *testing.T) {
	v := listOf(api.Value{})
	v.Items[0] = v
	checkTurn := func(turn func(d *api.Def)) {
		d := plainDef(api.DInput)
		turn(&d)
		if sdl.Right(doc(d)) {
			t.Error("an endless value")
		}
	}
	checkTurn(func(d *api.Def) { d.Inputs[0].Has, d.Inputs[0].Default = true, v })
	checkTurn(func(d *api.Def) { d.Inputs[0].Default = v })
	checkTurn(func(d *api.Def) { d.Dirs = []api.Dir{{Name: "d", Args: []api.Arg{{Name: "a", Value: v}}}} })
}

// Of random right documents, each with one wrong name.
func TestRightWithOneWrongName(t *testing.T) {
	wrong := 0
	eachRight(func(r source, d api.Doc, w *writer) {
		if w.at > 2000 {
			return
		}
		names := 0
		eachName(&d, func(name *string) { names++ })
		at := r.Intn(names)
		eachName(&d, func(name *string) {
			if at == 0 {
				*name += []string{"-", " ", "\x00", "é", strings.Repeat("n", 64)}[r.Intn(5)]
			}
			at--
		})
		wrong++
		if sdl.Right(d) {
			t.Errorf("%q is right", brief(write(d).text()))
		}
	})
	if wrong < 1000 {
		t.Error("too few documents:", wrong)
	}
}

// eachName calls visit for every name in d that is not in a value.
func eachName(d *api.Doc, visit func(name *string)) {
	dirs := func(l []api.Dir) {
		for i := range l {
			visit(&l[i].Name)
			for k := range l[i].Args {
				visit(&l[i].Args[k].Name)
			}
		}
	}
	inputs := func(l []api.Input) {
		for i := range l {
			visit(&l[i].Name)
			visit(&l[i].Type.Name)
			dirs(l[i].Dirs)
		}
	}
	for i := range d.Defs {
		x := &d.Defs[i]
		visit(&x.Name)
		for k := range x.Implements {
			visit(&x.Implements[k])
		}
		dirs(x.Dirs)
		for k := range x.Fields {
			visit(&x.Fields[k].Name)
			visit(&x.Fields[k].Type.Name)
			inputs(x.Fields[k].Args)
			dirs(x.Fields[k].Dirs)
		}
		for k := range x.Members {
			visit(&x.Members[k].Name)
			dirs(x.Members[k].Dirs)
		}
		inputs(x.Inputs)
	}
}
