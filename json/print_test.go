package json_test

import (
	"math"
	"math/rand"
	"reflect"
	"strconv"
	"strings"
	"testing"

	"supergraph/api"
	"supergraph/json"
)

const maxLevels = 1 << 16

func node(kind, n int, text string) api.Value { return api.Value{Kind: kind, Int: n, Text: text} }

func number(n int) api.Value { return node(api.VInt, n, "") }

func text(s string) api.Value { return node(api.VText, 0, s) }

func list(items ...api.Value) api.Value { return api.Value{Kind: api.VList, Items: items} }

func fields(keys []string, items ...api.Value) api.Value {
	return api.Value{Kind: api.VObject, Keys: keys, Items: items}
}

// nested puts v into so many lists.
func nested(v api.Value, lists int) api.Value {
	for range lists {
		v = list(v)
	}
	return v
}

// expectedLiteral is written apart from text.Quote: a literal as the chapter of layer 1 lists it.
func expectedLiteral(s string) string {
	escapes := map[byte]string{'"': `\"`, '\\': `\\`, '\n': `\n`, '\r': `\r`, '\t': `\t`}
	literal := `"`
	for i := range len(s) {
		c := s[i]
		switch escape, ok := escapes[c]; {
		case ok:
			literal += escape
		case c >= 32 && c <= 126:
			literal += string(rune(c))
		default:
			digits := strconv.FormatUint(uint64(c), 16)
			literal += `\u` + strings.Repeat("0", 4-len(digits)) + digits
		}
	}
	return literal + `"`
}

// expectedText returns the parts of the JSON text of v, joined; "" if there is none.
func expectedText(v api.Value) string {
	var parts []string
	for i, item := range v.Items {
		part := expectedText(item)
		if part == "" && (v.Kind == api.VList || v.Kind == api.VObject) {
			return ""
		}
		if v.Kind == api.VObject && len(v.Keys) == len(v.Items) {
			part = expectedLiteral(v.Keys[i]) + ":" + part
		}
		parts = append(parts, part)
	}
	switch {
	case v.Kind == api.VNull:
		return "null"
	case v.Kind == api.VBool && v.Int == 0:
		return "false"
	case v.Kind == api.VBool:
		return "true"
	case v.Kind == api.VInt:
		return strconv.FormatInt(int64(v.Int), 10)
	case v.Kind == api.VText || v.Kind == api.VEnum:
		return expectedLiteral(v.Text)
	case v.Kind == api.VList:
		return "[" + strings.Join(parts, ",") + "]"
	case v.Kind == api.VObject && len(v.Keys) == len(v.Items):
		return "{" + strings.Join(parts, ",") + "}"
	}
	return ""
}

// checkPrint expects ErrKind if want is empty: no value has an empty text.
func checkPrint(t *testing.T, v api.Value, want string) {
	t.Helper()
	code := api.OK
	if want == "" {
		code = api.ErrKind
	}
	if got, err := json.Print(v); got != want || err != code {
		t.Errorf("Print(%v) is %q, %d, not %q", v, got, err, want)
	}
}

// P3.1

func TestPrintExamples(t *testing.T) {
	tests := []struct {
		v    api.Value
		want string
	}{
		{fields([]string{"a", "b"}, list(number(1), api.Value{}), node(api.VEnum, 0, "RED")), `{"a":[1,null],"b":"RED"}`},
		{api.Value{}, "null"},
		{node(api.VBool, 0, ""), "false"},
		{node(api.VBool, 1, ""), "true"},
		{number(0), "0"},
		{number(-12), "-12"},
		{number(math.MaxInt), "9223372036854775807"},
		{number(math.MinInt), "-9223372036854775808"},
		{text(""), `""`},
		{text("null"), `"null"`},
		{text("a/b"), `"a/b"`},
		{text("\"\\\n\r\t\b\x00\x7f\xc8 ~"), `"\"\\\n\r\t\u0008\u0000\u007f\u00c8 ~"`},
		{text("é"), `"\u00c3\u00a9"`},
		{text("<&>"), `"<&>"`},
		{list(), "[]"},
		{api.Value{Kind: api.VList, Items: []api.Value{}, Keys: []string{}}, "[]"},
		{fields(nil), "{}"},
		{fields([]string{}), "{}"},
		{list(list(), fields(nil), list(list())), "[[],{},[[]]]"},
		{list(number(1), number(2), number(3)), "[1,2,3]"},
		{fields([]string{"b", "a"}, number(1), number(2)), `{"b":1,"a":2}`},
		{fields([]string{"a", "a"}, number(1), number(2)), `{"a":1,"a":2}`},
		{fields([]string{"", "a b", "\"\xff"}, number(1), number(2), fields([]string{"c"}, list())), `{"":1,"a b":2,"\"\u00ff":{"c":[]}}`},
	}
	for _, x := range tests {
		checkPrint(t, x.v, x.want)
	}
}

// A name of an enumeration value can be any text.
func TestPrintEveryByte(t *testing.T) {
	all := ""
	for c := range 256 {
		all += string([]byte{byte(c)})
		for _, s := range []string{all[c:], "a" + all[c:] + "0"} {
			checkPrint(t, text(s), expectedLiteral(s))
			checkPrint(t, node(api.VEnum, 0, s), expectedLiteral(s))
			checkPrint(t, fields([]string{s}, text(s)), "{"+expectedLiteral(s)+":"+expectedLiteral(s)+"}")
		}
	}
	checkPrint(t, list(text(all)), "["+expectedLiteral(all)+"]")
}

func TestPrintIntegers(t *testing.T) {
	for shift := range 64 {
		for _, n := range []int{1<<shift - 1, 1 << shift, -1 << shift, 1 - 1<<shift} {
			checkPrint(t, number(n), strconv.FormatInt(int64(n), 10))
		}
	}
}

// Every int but 0 makes a boolean true.
func TestPrintBooleans(t *testing.T) {
	for _, n := range []int{1, 2, -1, 256, 1 << 32, math.MaxInt, math.MinInt} {
		checkPrint(t, node(api.VBool, n, ""), "true")
		checkPrint(t, list(node(api.VBool, n, "false")), "[true]")
	}
	checkPrint(t, node(api.VBool, 0, "true"), "false")
}

// Every kind with every combination of fields that are set.
func TestPrintOfFields(t *testing.T) {
	items := [][]api.Value{nil, {}, {{}}, {node(api.VFail, 0, "")}, {number(1), node(api.VVar, 0, "a")}, {text("x"), list()}}
	keys := [][]string{nil, {}, {"a"}, {"b", "a"}, {"a", "a"}, {"", "\n"}, {"a", "b", "c"}}
	kinds := []int{math.MinInt, -256, 256, 1 << 32, math.MaxInt}
	for kind := -3; kind < 14; kind++ {
		kinds = append(kinds, kind)
	}
	for _, kind := range kinds {
		for n := -1; n <= 2; n++ {
			for _, s := range []string{"", "a", "true", "\""} {
				for _, i := range items {
					for _, k := range keys {
						v := api.Value{Kind: kind, Int: n, Text: s, Items: i, Keys: k}
						checkPrint(t, v, expectedText(v))
						v = list(number(1), fields([]string{"x", "y"}, v, list()))
						checkPrint(t, v, expectedText(v))
					}
				}
			}
		}
	}
}

func TestPrintWithoutText(t *testing.T) {
	bad := node(api.VFail, 0, "x")
	tests := []api.Value{
		node(api.VVar, 0, "x"),
		node(api.VRef, 1, ""),
		bad,
		node(-1, 0, ""),
		list(bad),
		list(number(1), bad),
		list(bad, number(1)),
		fields([]string{"a"}, bad),
		fields([]string{"a", "b"}, number(1), bad),
		fields([]string{"a", "b"}, bad, number(1)),
		fields([]string{"a"}),
		fields(nil, number(1)),
		fields([]string{"a"}, number(1), number(2)),
		fields([]string{"a", "b"}, number(1)),
		list(number(1), list(fields([]string{"a"}, list(fields([]string{"b"}))))),
		nested(bad, 1000),
	}
	for _, v := range tests {
		checkPrint(t, v, "")
	}
}

// What a kind does not use is no value in the value.
func TestPrintIgnoresUnusedFields(t *testing.T) {
	bad := []api.Value{node(api.VFail, 0, "x"), fields([]string{"a"})}
	tests := []struct {
		v    api.Value
		want string
	}{
		{api.Value{Kind: api.VNull, Int: 1, Text: "x", Items: bad, Keys: []string{"a"}}, "null"},
		{api.Value{Kind: api.VBool, Text: "x", Items: bad, Keys: []string{"a"}}, "false"},
		{api.Value{Kind: api.VInt, Int: 5, Text: "x", Items: bad, Keys: []string{"a"}}, "5"},
		{api.Value{Kind: api.VText, Int: 5, Text: "x", Items: bad, Keys: []string{"a"}}, `"x"`},
		{api.Value{Kind: api.VEnum, Int: 5, Text: "x", Items: bad, Keys: []string{"a"}}, `"x"`},
		{api.Value{Kind: api.VList, Int: 5, Text: "x", Items: []api.Value{{}}, Keys: []string{"a", "b"}}, "[null]"},
		{api.Value{Kind: api.VObject, Int: 5, Text: "x", Items: []api.Value{{}}, Keys: []string{"a"}}, `{"a":null}`},
	}
	for _, x := range tests {
		checkPrint(t, x.v, x.want)
		checkPrint(t, list(x.v, x.v), "["+x.want+","+x.want+"]")
	}
}

// anyValue returns a value of any form: fields that its kind does not use are often set.
func anyValue(r *rand.Rand, levels int) api.Value {
	kinds := []int{0, 1, 2, 3, 4, 5, 5, 5, 6, 6, 6, r.Intn(13) - 1}
	texts := []string{"", "a", "b", "ab", "null", "a b", "\xff\n\"\\"}
	v := node(kinds[r.Intn(len(kinds))], r.Intn(4)-1, texts[r.Intn(len(texts))])
	for range r.Intn(4) {
		if levels > 1 {
			v.Items = append(v.Items, anyValue(r, levels-1))
		}
	}
	count := len(v.Items)
	if r.Intn(10) == 0 {
		count = r.Intn(5)
	}
	for range count {
		v.Keys = append(v.Keys, texts[r.Intn(len(texts))])
	}
	return v
}

func TestPrintRandomValues(t *testing.T) {
	r := rand.New(rand.NewSource(1))
	printed := 0
	for range 20000 {
		v := anyValue(r, 5)
		checkPrint(t, v, expectedText(v))
		if expectedText(v) != "" {
			printed++
		}
	}
	if printed < 5000 || printed > 18000 {
		t.Error(printed)
	}
}

func TestPrintBeyondTheLimitsOfPlainValues(t *testing.T) {
	const lists = maxLevels - 1
	checkPrint(t, nested(number(1), lists), strings.Repeat("[", lists)+"1"+strings.Repeat("]", lists))
	objects := number(1)
	for range lists {
		objects = fields([]string{"a"}, objects)
	}
	checkPrint(t, objects, strings.Repeat(`{"a":`, lists)+"1"+strings.Repeat("}", lists))
	checkPrint(t, list(make([]api.Value, 100000)...), "["+strings.Repeat("null,", 99999)+"null]")
	checkPrint(t, text(strings.Repeat("\x01", 1<<20)), `"`+strings.Repeat(`\u0001`, 1<<20)+`"`)
	if got, err := json.Print(nested(node(api.VVar, 0, "a"), lists)); got != "" || err != api.ErrKind {
		t.Error(len(got), err)
	}
}

func TestPrintDoesNotModify(t *testing.T) {
	example := func() api.Value {
		return fields([]string{"b", "a"}, list(number(1), node(api.VEnum, 0, "x")), fields([]string{"d", "c"}, text("\n"), api.Value{}))
	}
	v := example()
	checkPrint(t, v, `{"b":[1,"x"],"a":{"d":"\n","c":null}}`)
	if !reflect.DeepEqual(v, example()) {
		t.Errorf("Print changes its argument to %v", v)
	}
}
