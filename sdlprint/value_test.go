package sdlprint_test

import (
	"math"
	"slices"
	"strconv"
	"strings"
	"testing"

	"supergraph/api"
	"supergraph/sdl"
	"supergraph/sdlprint"
	"supergraph/value"
)

// P7.1: values.

func checkValue(t *testing.T, v api.Value, want string) {
	t.Helper()
	given := clone(v)
	if got := sdlprint.Value(v); got != want {
		t.Errorf("Value is %s, not %s", brief(got), brief(want))
	}
	if !value.Same(v, given) {
		t.Errorf("Value changed %v to %v", given, v)
	}
}

func TestValueExamples(t *testing.T) {
	for _, x := range []struct {
		v    api.Value
		want string
	}{
		{object("a b", listOf(number(1), enum("RED")), str("x")), `{a: [1, RED], b: "x"}`},
		{api.Value{}, "null"},
		{truth(0), "false"}, {truth(1), "true"},
		{number(0), "0"}, {number(-1), "-1"}, {number(10), "10"}, {number(math.MaxInt), "9223372036854775807"}, {number(math.MinInt), "-9223372036854775808"},
		{str(""), `""`}, {str("x"), `"x"`}, {str("null"), `"null"`}, {str("1"), `"1"`}, {str("$a"), `"$a"`}, {str("a, b"), `"a, b"`},
		{enum("RED"), "RED"}, {enum("_"), "_"}, {enum("__a"), "__a"}, {enum("type"), "type"}, {enum("TRUE"), "TRUE"}, {enum(strings.Repeat("E", 64)), strings.Repeat("E", 64)},
		{variable("a"), "$a"}, {variable("null"), "$null"}, {variable("__b"), "$__b"}, {variable("n_1"), "$n_1"},
		{listOf(), "[]"}, {api.Value{Kind: api.VList, Items: []api.Value{}}, "[]"}, {listOf(number(1)), "[1]"},
		{listOf(number(1), number(-2), number(3)), "[1, -2, 3]"}, {listOf(api.Value{}, api.Value{}), "[null, null]"},
		{listOf(listOf()), "[[]]"}, {listOf(listOf(), listOf(listOf(number(7)))), "[[], [[7]]]"}, {listOf(variable("a"), str("a"), enum("a")), `[$a, "a", a]`},
		{listOf(object("")), "[{}]"}, {listOf(object("a", truth(0)), object("")), "[{a: false}, {}]"},
		{object(""), "{}"}, {api.Value{Kind: api.VObject, Items: []api.Value{}, Keys: []string{}}, "{}"}, {object("a", number(1)), "{a: 1}"},
		{object("b a", number(1), number(2)), "{b: 1, a: 2}"}, {object("a b c", api.Value{}, truth(1), variable("c")), "{a: null, b: true, c: $c}"},
		{object("a", object("a", object(""))), "{a: {a: {}}}"}, {object("a b", listOf(), object("c", listOf(object("d", str("{"))))), `{a: [], b: {c: [{d: "{"}]}}`},
		{object("true null on __x", number(1), number(2), number(3), number(4)), "{true: 1, null: 2, on: 3, __x: 4}"},
	} {
		checkValue(t, x.v, x.want)
	}
}

// expectedByte is how a byte is written in a string.
func expectedByte(b byte) string {
	for _, escape := range []string{`""`, `\\`, "\nn", "\rr", "\tt"} {
		if b == escape[0] {
			return `\` + escape[1:]
		}
	}
	if b < 32 || b > 126 {
		return `\u00` + strconv.FormatInt(int64(b)+256, 16)[1:]
	}
	return string(rune(b))
}

func TestValueBytes(t *testing.T) {
	for b := range 256 {
		s := string([]byte{byte(b)})
		want := expectedByte(byte(b))
		checkValue(t, str(s), `"`+want+`"`)
		checkValue(t, listOf(str("a"+s+"b"), str(s+s)), `["a`+want+`b", "`+want+want+`"]`)
		checkValue(t, object("k", str(s)), `{k: "`+want+`"}`)
	}
	checkValue(t, str("é\n"), `"\u00c3\u00a9\n"`)
}

func TestValueIntegers(t *testing.T) {
	for bit := range 64 {
		for _, n := range []int{1<<bit - 1, 1 << bit, 1<<bit + 1, -(1 << bit), -(1 << bit) - 1} {
			checkValue(t, number(n), strconv.Itoa(n))
		}
	}
}

func expectedValue(v api.Value) string {
	var parts []string
	for i, x := range v.Items {
		part := expectedValue(x)
		if v.Kind == api.VObject {
			part = v.Keys[i] + ": " + part
		}
		parts = append(parts, part)
	}
	content := ""
	for _, b := range []byte(v.Text) {
		content += expectedByte(b)
	}
	return map[int]string{
		api.VNull: "null", api.VBool: strconv.FormatBool(v.Int == 1), api.VInt: strconv.Itoa(v.Int), api.VText: `"` + content + `"`,
		api.VEnum: v.Text, api.VVar: "$" + v.Text, api.VList: "[" + strings.Join(parts, ", ") + "]", api.VObject: "{" + strings.Join(parts, ", ") + "}",
	}[v.Kind]
}

// withVariables replaces some nodes of a value.
func withVariables(r source, v api.Value) api.Value {
	if r.Intn(4) == 0 {
		return variable(r.name())
	}
	v.Items = slices.Clone(v.Items)
	for i, x := range v.Items {
		v.Items[i] = withVariables(r, x)
	}
	return v
}

func TestRandomValues(t *testing.T) {
	eachRight(func(r source, _ api.Doc) {
		for range 10 {
			v := r.value(1 + r.Intn(6))
			checkValue(t, v, expectedValue(v))
			d, _, code := sdl.Parse("input I { a: J = " + sdlprint.Value(v) + " }")
			if code != api.OK || !value.Same(d.Defs[0].Inputs[0].Default, v) {
				t.Errorf("%s is not read as %v", sdlprint.Value(v), v)
			}
			v = withVariables(r, v)
			if !value.Literal(v) {
				t.Error("not a literal:", v)
			}
			checkValue(t, v, expectedValue(v))
		}
	})
}

func TestValuesAtTheLimits(t *testing.T) {
	v, keys := number(1), "{k: "
	for range api.MaxDepth - 1 {
		v = object("k", v)
	}
	checkValue(t, v, strings.Repeat(keys, 23)+"1"+strings.Repeat("}", 23))
	wide := listOf(slices.Repeat([]api.Value{variable("a")}, api.MaxNodes-1)...)
	checkValue(t, wide, "["+strings.Repeat("$a, ", 4094)+"$a]")
	if !value.Literal(v) || !value.Literal(wide) {
		t.Error("not literals")
	}
}

// R1: the results for values that are no literals are not specified, but there are some.
func TestValuesThatAreNoLiterals(t *testing.T) {
	for _, kind := range []int{api.VRef, api.VFail, -1, 10, math.MinInt, math.MaxInt} {
		sdlprint.Value(api.Value{Kind: kind, Int: 1, Text: "a", Items: []api.Value{{}}, Keys: []string{"a", "b"}})
		sdlprint.Value(listOf(api.Value{Kind: kind}))
		sdlprint.Value(object("a", api.Value{Kind: kind}))
	}
	for keys := range 4 {
		for items := range 4 {
			v := api.Value{Kind: api.VObject, Keys: slices.Repeat([]string{"a"}, keys), Items: make([]api.Value, items)}
			sdlprint.Value(v)
			sdlprint.Value(listOf(v, v))
		}
	}
	sdlprint.Value(truth(math.MinInt))
	sdlprint.Value(enum("a b"))
	deep := listOf()
	for range 1<<16 - 1 {
		deep = listOf(deep)
	}
	sdlprint.Value(deep)
	eachWild(func(r source, _ api.Doc) { sdlprint.Value(r.value(8)) })
}

// P7.1: directives.

func checkDirectives(t *testing.T, want string, l ...api.Dir) {
	t.Helper()
	if got := sdlprint.Directives(l); got != want {
		t.Errorf("Directives is %s, not %s", brief(got), brief(want))
	}
}

func TestDirectives(t *testing.T) {
	key := api.Dir{Name: "key", Args: []api.Arg{{Name: "fields", Value: str("id")}}}
	checkDirectives(t, `@key(fields: "id") @shareable`, key, api.Dir{Name: "shareable"})
	checkDirectives(t, "")
	checkDirectives(t, "@a", api.Dir{Name: "a"})
	checkDirectives(t, "@a", api.Dir{Name: "a", Args: []api.Arg{}})
	checkDirectives(t, "@b @a @b", api.Dir{Name: "b"}, api.Dir{Name: "a"}, api.Dir{Name: "b"})
	checkDirectives(t, "@__a(__b: null)", api.Dir{Name: "__a", Args: []api.Arg{{Name: "__b"}}})
	checkDirectives(t, `@key(fields: "id") @key(fields: "id")`, key, key)
	checkDirectives(t, "@true(null: true, false: {a: [], b: 1}, null: RED) @on",
		api.Dir{Name: "true", Args: []api.Arg{{Name: "null", Value: truth(1)}, {Name: "false", Value: object("a b", listOf(), number(1))}, {Name: "null", Value: enum("RED")}}}, api.Dir{Name: "on"})
	checkDirectives(t, "@d("+strings.Repeat("a: 1, ", 15)+"a: 1)", api.Dir{Name: "d", Args: slices.Repeat([]api.Arg{{Name: "a", Value: number(1)}}, 16)})
	checkDirectives(t, strings.Repeat("@d ", 15)+"@d", slices.Repeat([]api.Dir{{Name: "d"}}, 16)...)
	if got := sdlprint.Directives([]api.Dir{}); got != "" {
		t.Errorf("Directives of an empty list is %q", got)
	}
}

func expectedDirectives(l []api.Dir) string {
	var uses []string
	for _, d := range l {
		var args []string
		for _, a := range d.Args {
			args = append(args, a.Name+": "+expectedValue(a.Value))
		}
		use := "@" + d.Name + "(" + strings.Join(args, ", ") + ")"
		uses = append(uses, strings.TrimSuffix(use, "()"))
	}
	return strings.Join(uses, " ")
}

func TestRandomDirectives(t *testing.T) {
	eachRight(func(r source, _ api.Doc) {
		l := r.directives()
		checkDirectives(t, expectedDirectives(l), l...)
	})
	eachWild(func(r source, _ api.Doc) { sdlprint.Directives(r.directives()) })
}
