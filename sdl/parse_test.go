package sdl_test

import (
	"math"
	"strconv"
	"strings"
	"testing"

	"supergraph/api"
	"supergraph/sdl"
	"supergraph/text"
)

func ref(name string, wraps ...int) api.Ref { return api.Ref{Name: name, Wraps: wraps} }

func number(n int) api.Value { return api.Value{Kind: api.VInt, Int: n} }

func str(s string) api.Value { return api.Value{Kind: api.VText, Text: s} }

func enum(name string) api.Value { return api.Value{Kind: api.VEnum, Text: name} }

func listOf(items ...api.Value) api.Value { return api.Value{Kind: api.VList, Items: items} }

func object(keys string, items ...api.Value) api.Value {
	return api.Value{Kind: api.VObject, Keys: strings.Fields(keys), Items: items}
}

func doc(defs ...api.Def) api.Doc { return api.Doc{Defs: defs} }

func simple(name, result string) api.Field { return api.Field{Name: name, Type: ref(result)} }

// P6.1: documents.

func TestExamples(t *testing.T) {
	one := api.Input{Name: "a", Type: ref("Int"), Has: true, Default: number(1)}
	field := api.Field{Name: "x", Args: []api.Input{one}, Type: ref("Int", api.WList, api.WNonNull), Dirs: []api.Dir{{Name: "b"}}}
	checkRead(t, "type A { x(a: Int = 1): [Int!] @b }", doc(api.Def{Kind: api.DObject, Name: "A", Fields: []api.Field{field}}))
	checkRead(t, "enum E { A B } union U = X | Y input I { a: [Int] = [1 2] b: J = {c: RED} }", doc(
		api.Def{Kind: api.DEnum, Name: "E", Members: []api.Member{{Name: "A"}, {Name: "B"}}},
		api.Def{Kind: api.DUnion, Name: "U", Members: []api.Member{{Name: "X"}, {Name: "Y"}}},
		api.Def{Kind: api.DInput, Name: "I", Inputs: []api.Input{
			{Name: "a", Type: ref("Int", api.WList), Has: true, Default: listOf(number(1), number(2))},
			{Name: "b", Type: ref("J"), Has: true, Default: object("c", enum("RED"))},
		}},
	))
	checkError(t, "type A { }", 9, api.ErrForm)
	checkError(t, "", 0, api.ErrForm)
	checkError(t, "type A { x: Int } 5", 18, api.ErrForm)
	checkError(t, "input I { a: J = {c: 1 c: 2} }", 23, api.ErrTwice)
}

func TestEveryPart(t *testing.T) {
	key := api.Dir{Name: "key", Args: []api.Arg{{Name: "fields", Value: str("id")}}}
	two := api.Dir{Name: "d", Args: []api.Arg{{Name: "a", Value: number(1)}, {Name: "b", Value: listOf()}}}
	tag := api.Dir{Name: "tag"}
	checkRead(t, `type A implements I & J @key(fields: "id") @tag { id: ID! x(a: B = null @tag, b: [[C]!]! @d(a: 1 b: []) @key(fields: "id")): A @tag @tag y: D! }`, doc(
		api.Def{Kind: api.DObject, Name: "A", Implements: []string{"I", "J"}, Dirs: []api.Dir{key, tag}, Fields: []api.Field{
			{Name: "id", Type: ref("ID", api.WNonNull)},
			{Name: "x", Args: []api.Input{
				{Name: "a", Type: ref("B"), Has: true, Dirs: []api.Dir{tag}},
				{Name: "b", Type: ref("C", api.WNonNull, api.WList, api.WNonNull, api.WList), Dirs: []api.Dir{two, key}},
			}, Type: ref("A"), Dirs: []api.Dir{tag, tag}},
			{Name: "y", Type: ref("D", api.WNonNull)},
		}},
	))
	checkRead(t, "interface I @tag { x: Int } interface J { y(a: A = {b: B}): Int @d(a: 1, b: []) }", doc(
		api.Def{Kind: api.DInterface, Name: "I", Dirs: []api.Dir{tag}, Fields: []api.Field{simple("x", "Int")}},
		api.Def{Kind: api.DInterface, Name: "J", Fields: []api.Field{{
			Name: "y", Args: []api.Input{{Name: "a", Type: ref("A"), Has: true, Default: object("b", enum("B"))}}, Type: ref("Int"), Dirs: []api.Dir{two},
		}}},
	))
	checkRead(t, "union U @tag @tag = A | B | C union V = U", doc(
		api.Def{Kind: api.DUnion, Name: "U", Dirs: []api.Dir{tag, tag}, Members: []api.Member{{Name: "A"}, {Name: "B"}, {Name: "C"}}},
		api.Def{Kind: api.DUnion, Name: "V", Members: []api.Member{{Name: "U"}}},
	))
	checkRead(t, "enum E @tag { A @tag @d(a: 1 b: []) B } enum F { C }", doc(
		api.Def{Kind: api.DEnum, Name: "E", Dirs: []api.Dir{tag}, Members: []api.Member{{Name: "A", Dirs: []api.Dir{tag, two}}, {Name: "B"}}},
		api.Def{Kind: api.DEnum, Name: "F", Members: []api.Member{{Name: "C"}}},
	))
	checkRead(t, "input N @tag { a: A! = -7 @tag b: [B] }", doc(
		api.Def{Kind: api.DInput, Name: "N", Dirs: []api.Dir{tag}, Inputs: []api.Input{
			{Name: "a", Type: ref("A", api.WNonNull), Has: true, Default: number(-7), Dirs: []api.Dir{tag}},
			{Name: "b", Type: ref("B", api.WList)},
		}},
	))
}

// The names of all things may be any names: keywords, reserved ones, and repeated ones.
func TestAnyNames(t *testing.T) {
	for _, n := range append(strings.Fields(words+" on query __typename _ Int ID skip"), strings.Repeat("n", 64)) {
		d := []api.Dir{{Name: n, Args: []api.Arg{{Name: n, Value: object(n)}, {Name: n}}}, {Name: n}}
		d[0].Args[0].Value.Items = []api.Value{listOf()}
		input := api.Input{Name: n, Type: ref(n), Dirs: d}
		field := api.Field{Name: n, Args: []api.Input{input, input}, Type: ref(n, api.WList), Dirs: d}
		dir := "@" + n + "(" + n + ":{" + n + ":[]}" + n + ":null)@" + n + " "
		in := strings.Repeat(n+":"+n+" "+dir, 2)
		fields := strings.Repeat(n+"("+in+"):["+n+"]"+dir, 2)
		checkRead(t, "type "+n+" implements "+n+"&"+n+" "+dir+"{"+fields+"} type "+n+" {"+fields+"}"+
			"interface "+n+" "+dir+"{"+fields+"}union "+n+" "+dir+"="+n+"|"+n+" enum "+n+" "+dir+"{"+n+" "+n+" "+dir+n+"}input "+n+" "+dir+"{"+in+"}",
			doc(
				api.Def{Kind: api.DObject, Name: n, Implements: []string{n, n}, Dirs: d, Fields: []api.Field{field, field}},
				api.Def{Kind: api.DObject, Name: n, Fields: []api.Field{field, field}},
				api.Def{Kind: api.DInterface, Name: n, Dirs: d, Fields: []api.Field{field, field}},
				api.Def{Kind: api.DUnion, Name: n, Dirs: d, Members: []api.Member{{Name: n}, {Name: n}}},
				api.Def{Kind: api.DEnum, Name: n, Dirs: d, Members: []api.Member{{Name: n}, {Name: n, Dirs: d}, {Name: n}}},
				api.Def{Kind: api.DInput, Name: n, Dirs: d, Inputs: []api.Input{input, input}},
			))
	}
}

func TestImplementsAsAName(t *testing.T) {
	fields := []api.Field{simple("x", "A")}
	checkRead(t, "type implements implements implements & implements {x:A}", doc(api.Def{Kind: api.DObject, Name: "implements", Implements: []string{"implements", "implements"}, Fields: fields}))
	checkRead(t, "type implements {x:A}", doc(api.Def{Kind: api.DObject, Name: "implements", Fields: fields}))
	checkError(t, "type implements implements {x:A}", 27, api.ErrForm)
	checkError(t, "type implements B {x:A}", 16, api.ErrForm)
	checkError(t, "type A @d implements B {x:A}", 10, api.ErrForm)
	checkError(t, "type A \"implements\" B {x:A}", 7, api.ErrForm)
	for _, kind := range []string{"interface A implements B {x:A}", "enum A implements B {x}", "input A implements B {x:A}", "union A implements B = C"} {
		checkError(t, kind, strings.Index(kind, "implements"), api.ErrForm)
	}
}

// A string literal is neither a sign nor a word, whatever it contains.
func TestLiteralsAreNoSigns(t *testing.T) {
	o := newOracle()
	parts := tokensOf(whole)
	for i, part := range parts {
		if part[0] == '"' {
			continue
		}
		before, after := strings.Join(parts[:i], " ")+" ", " "+strings.Join(parts[i+1:], " ")
		if code := o.check(t, before+strconv.Quote(part)+after); code != api.OK && code != api.ErrForm {
			t.Errorf("%q instead of the token %d: %d", part, i, code)
		}
		if !o.canGoOn(before + `""`) {
			checkError(t, before+strconv.Quote(part)+after, len(before), api.ErrForm)
		}
	}
	checkRead(t, `input N{a:B=["]" "[" "}" "{" "!" "@" ")" "" "true" "type" "$"] b:C="="}`, doc(api.Def{Kind: api.DInput, Name: "N", Inputs: []api.Input{
		{Name: "a", Type: ref("B"), Has: true, Default: listOf(str("]"), str("["), str("}"), str("{"), str("!"), str("@"), str(")"), str(""), str("true"), str("type"), str("$"))},
		{Name: "b", Type: ref("C"), Has: true, Default: str("=")},
	}}))
}

// checkValue expects that text is read as v in all places where values are.
func checkValue(t *testing.T, text string, v api.Value) {
	t.Helper()
	input := api.Input{Name: "a", Type: ref("B"), Has: true, Default: v}
	dirs := []api.Dir{{Name: "d", Args: []api.Arg{{Name: "a", Value: v}}}}
	checkRead(t, "input N { a: B = "+text+" } type A @d(a: "+text+") { x(a: B = "+text+"): C @d(a: "+text+") }", doc(
		api.Def{Kind: api.DInput, Name: "N", Inputs: []api.Input{input}},
		api.Def{Kind: api.DObject, Name: "A", Dirs: dirs, Fields: []api.Field{{Name: "x", Args: []api.Input{input}, Type: ref("C"), Dirs: dirs}}},
	))
}

func TestValues(t *testing.T) {
	checkValue(t, "null", api.Value{})
	checkValue(t, "true", api.Value{Kind: api.VBool, Int: 1})
	checkValue(t, "false", api.Value{Kind: api.VBool})
	for _, n := range []int{0, 1, -1, 9, 10, -10, 2147483647, -2147483648, 2147483648, math.MaxInt, math.MinInt} {
		checkValue(t, strconv.Itoa(n), number(n))
	}
	for _, name := range []string{"A", "True", "FALSE", "Null", "nul", "trues", "_", "__x", "type", "input", "implements", "on", strings.Repeat("n", 64)} {
		checkValue(t, name, enum(name))
	}
	for b := range 256 {
		s := string([]byte{byte(b)})
		checkValue(t, text.Quote(s), str(s))
		checkValue(t, text.Quote("a"+s+"b"), str("a"+s+"b"))
	}
	checkValue(t, `"\u0041\/\b\f\"\\"`, str("A/\b\f\"\\"))
	checkValue(t, "[]", listOf())
	checkValue(t, "{}", object(""))
	checkValue(t, "[[] {} null [[1]2] true A \"a\" -1]", listOf(listOf(), object(""), api.Value{}, listOf(listOf(number(1)), number(2)), api.Value{Kind: api.VBool, Int: 1}, enum("A"), str("a"), number(-1)))
	checkValue(t, "{a:{}, b:[{a:1}], c:null, d:{a:{a:A}}}", object("a b c d", object(""), listOf(object("a", number(1))), api.Value{}, object("a", object("a", enum("A")))))
	checkValue(t, "{true:true false:false null:null type:type}", object("true false null type", api.Value{Kind: api.VBool, Int: 1}, api.Value{Kind: api.VBool}, api.Value{}, enum("type")))
	checkValue(t, "{a:1, A:2, _a:3, aa:4}", object("a A _a aa", number(1), number(2), number(3), number(4)))
}

// A default value that is null is not the same as none.
func TestNullAsADefault(t *testing.T) {
	for _, has := range []bool{true, false} {
		s := map[bool]string{true: "= null"}[has]
		checkRead(t, "input N { a: B "+s+" }", doc(api.Def{Kind: api.DInput, Name: "N", Inputs: []api.Input{{Name: "a", Type: ref("B"), Has: has}}}))
	}
}

// P6.1: errors.

func TestErrorsOfTokensComeFirst(t *testing.T) {
	const large = "9223372036854775808"
	checkError(t, "type A { x: 1a }", 12, api.ErrForm)
	checkError(t, "type A { x ? }", 11, api.ErrForm)
	checkError(t, "} type A { x: B } %", 18, api.ErrForm)
	checkError(t, "input N { a: B = "+large+" }", 17, api.ErrSize)
	checkError(t, "input N { a: B = {c: 1 c: 2} b: C = -"+large+"0 }", 36, api.ErrSize)
	checkError(t, "} "+large+" \"", 2, api.ErrSize)
	checkError(t, "} \" "+large, 2, api.ErrForm)
	checkError(t, "type "+strings.Repeat("n", 65)+" { x: B }", 5, api.ErrForm)
	checkError(t, strings.Repeat("}", api.MaxText), 0, api.ErrForm)
	checkError(t, strings.Repeat("}", api.MaxText+1), api.MaxText, api.ErrSize)
	checkError(t, strings.Repeat("%", api.MaxText+1), api.MaxText, api.ErrSize)
	right := "type A{x:B}"
	checkRead(t, right+strings.Repeat(" ", api.MaxText-len(right)), doc(api.Def{Kind: api.DObject, Name: "A", Fields: []api.Field{simple("x", "B")}}))
	checkError(t, right+strings.Repeat(" ", api.MaxText-len(right)+1), api.MaxText, api.ErrSize)
}

func TestNoDefinitions(t *testing.T) {
	for _, s := range []string{"", " ", "# type A { x: B }", ",\n\t\r", "#\n#"} {
		checkError(t, s, len(s), api.ErrForm)
	}
	for _, s := range []string{"scalar X", "directive @d on FIELD", "schema { query: Query }", "extend type A { x: B }", "query { a }", "{ a }", "fragment F on A { b }", "Type A { x: B }", "implements", "\"a\" type A { x: B }", "1", "...", "$a"} {
		checkError(t, s, 0, api.ErrForm)
		checkError(t, "enum E { A } "+s, 13, api.ErrForm)
	}
}

func TestRepeatedKeys(t *testing.T) {
	for _, around := range valued() {
		for _, x := range []struct{ before, after string }{
			{"{ a : 1 ", "a : 1 }"},
			{"{ a : 1 b : 2 c : 3 ", "b : 1 }"},
			{"{ a : 1 b : 2 c : 3 ", "c : 1 }"},
			{"{ a : { a : 1 } ", "a : { a : 1 } }"},
			{"[ { a : 1 } { a : 1 ", "a : 1 } ]"},
			{"{ b : { a : 1 ", "a : 1 } b : 2 }"},
			{"{ true : 1 ", "true : 1 }"},
			{"{ a : [ { a : 1 } ] ", "a : 1 }"},
		} {
			at := len(around[0] + x.before)
			checkError(t, around[0]+x.before+x.after+around[1], at, api.ErrTwice)
			for _, rest := range []string{"", " }", " a", " 1", " ="} {
				checkError(t, around[0]+x.before+x.after[:strings.Index(x.after, " ")]+rest, at, api.ErrTwice)
			}
		}
		// Objects have keys of their own; the first error is the one before the other.
		checkRight(t, around[0]+"[ { a : { a : { a : 1 } b : { a : 1 } } } { a : [ { a : 2 } { a : 1 } ] } ]"+around[1])
		s := around[0] + "{ a : "
		checkError(t, s+") a : 1 }", len(s), api.ErrForm)
		checkError(t, s+"1 \"a\" : 1 }", len(s)+2, api.ErrForm)
	}
}

// A variable is no value of a schema.
func TestVariables(t *testing.T) {
	for _, around := range valued() {
		for _, s := range []string{"", "[ ", "{ a : ", "[ 1 { a : 1 b : "} {
			start := around[0] + s
			checkError(t, start+"$ v", len(start), api.ErrForm)
		}
	}
}

// Every call returns new memory.
func TestResultsShareNothing(t *testing.T) {
	first, _, _ := sdl.Parse(whole)
	second, _, _ := sdl.Parse(whole)
	before := write(second).text()
	for i := range first.Defs {
		d := &first.Defs[i]
		clear(d.Implements)
		clear(d.Members)
		clear(d.Dirs)
		clear(d.Inputs)
		for k := range d.Fields {
			clear(d.Fields[k].Type.Wraps)
			clear(d.Fields[k].Args)
		}
	}
	if after := write(second).text(); after != before {
		t.Error(after)
	}
}
