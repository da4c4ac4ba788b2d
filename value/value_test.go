package value

import (
	"math"
	"math/rand"
	"reflect"
	"strings"
	"testing"

	"supergraph/api"
)

const maxLevels = 1 << 16

func node(kind, n int, text string) api.Value { return api.Value{Kind: kind, Int: n, Text: text} }

func list(items ...api.Value) api.Value { return api.Value{Kind: api.VList, Items: items} }

func fields(keys string, items ...api.Value) api.Value {
	return api.Value{Kind: api.VObject, Keys: strings.Fields(keys), Items: items}
}

// nested returns a value with so many levels, whose inner levels are lists.
func nested(levels int) api.Value {
	v := node(api.VInt, 1, "")
	for range levels - 1 {
		v = list(v)
	}
	return v
}

// clone is written apart from Copy, which the tests must not trust.
func clone(v api.Value) api.Value {
	c := node(v.Kind, v.Int, v.Text)
	if v.Items != nil {
		c.Items = []api.Value{}
	}
	if v.Keys != nil {
		c.Keys = []string{}
	}
	for _, item := range v.Items {
		c.Items = append(c.Items, clone(item))
	}
	c.Keys = append(c.Keys, v.Keys...)
	return c
}

// anyValue returns a value of any form: fields that its kind does not use are often set.
func anyValue(r *rand.Rand, levels int) api.Value {
	ints := []int{0, 0, 0, 1, 1, 2, -1, math.MaxInt, math.MinInt}
	texts := []string{"", "", "", "a", "b", "ab", "null", "true", "a b", "\xff"}
	v := node(r.Intn(13)-1, ints[r.Intn(len(ints))], texts[r.Intn(len(texts))])
	if levels > 1 && r.Intn(2) == 0 {
		for range r.Intn(4) {
			v.Items = append(v.Items, anyValue(r, levels-1))
		}
	}
	if r.Intn(2) == 0 {
		count := len(v.Items)
		if r.Intn(4) == 0 {
			count = r.Intn(5)
		}
		for range count {
			v.Keys = append(v.Keys, texts[r.Intn(len(texts))])
		}
	}
	return v
}

// plainValue returns a plain value with at most so many levels.
func plainValue(r *rand.Rand, levels int) api.Value {
	kinds := 5
	if levels > 1 {
		kinds = 9
	}
	switch kind := r.Intn(kinds); kind {
	case api.VNull:
		return api.Value{}
	case api.VBool:
		return node(api.VBool, r.Intn(2), "")
	case api.VInt:
		return node(api.VInt, r.Intn(5)-2, "")
	case api.VText, api.VEnum:
		return node(kind, 0, string(rune('a'+r.Intn(3))))
	case api.VList, api.VObject:
		v := node(kind, 0, "")
		for _, n := range r.Perm(r.Intn(5)) {
			v.Items = append(v.Items, plainValue(r, levels-1))
			if kind == api.VObject {
				v.Keys = append(v.Keys, string(rune('a'+n)))
			}
		}
		return v
	}
	return plainValue(r, levels)
}

// eachRandom calls visit for many values of any form and many plain ones.
func eachRandom(visit func(v api.Value)) {
	r := rand.New(rand.NewSource(2))
	for range 4000 {
		visit(anyValue(r, 5))
		visit(plainValue(r, 5))
	}
}

func checkValue(t *testing.T, name string, got, want api.Value) {
	t.Helper()
	if !reflect.DeepEqual(got, want) {
		t.Errorf("%s is %v, not %v", name, got, want)
	}
}

func TestMake(t *testing.T) {
	checkValue(t, "Bool(false)", Bool(false), api.Value{Kind: api.VBool})
	checkValue(t, "Bool(true)", Bool(true), api.Value{Kind: api.VBool, Int: 1})
	for _, n := range []int{0, 1, -5, math.MaxInt, math.MinInt} {
		checkValue(t, "Int", Int(n), api.Value{Kind: api.VInt, Int: n})
	}
	for _, s := range []string{"", "a", "RED", "null", "1a", "\xff\x00", strings.Repeat("x", 100)} {
		checkValue(t, "Text", Text(s), api.Value{Kind: api.VText, Text: s})
		checkValue(t, "Enum", Enum(s), api.Value{Kind: api.VEnum, Text: s})
	}
	checkValue(t, "List(nil)", List(nil), api.Value{Kind: api.VList})
	items := []api.Value{Int(1), node(99, 5, "x"), List(nil)}
	checkValue(t, "List", List(items), api.Value{Kind: api.VList, Items: items})
}

// P2.1: what Bool, Int and Text return is right.
func TestMadeValuesAreRight(t *testing.T) {
	made := []api.Value{Bool(false), Bool(true), Int(0), Int(math.MinInt), Int(math.MaxInt), Text(""), Text("true")}
	for c := range 256 {
		made = append(made, Int(c-128), Text(string([]byte{byte(c)})))
	}
	made = append(made, Text(strings.Repeat("\x00", api.MaxText+1)))
	for _, v := range made {
		if !Right(v) || !Literal(v) {
			t.Errorf("%v is not right", v)
		}
	}
}

// P2.2

func TestMeasureExamples(t *testing.T) {
	tests := []struct {
		v           api.Value
		size, depth int
	}{
		{api.Value{}, 1, 1},
		{Int(7), 1, 1},
		{List(nil), 1, 1},
		{list(Int(1), list(Int(2))), 4, 3},
		{list(list(Int(2)), Int(1)), 4, 3},
		{fields("a b", list(), Text("x")), 3, 2},
		{api.Value{Keys: []string{"a", "b"}}, 1, 1},
		{api.Value{Kind: api.VInt, Items: []api.Value{{}, {Kind: -7, Items: []api.Value{{}}}}}, 4, 3},
		{api.Value{Kind: api.VRef, Items: []api.Value{{}}}, 2, 2},
		{list(make([]api.Value, 5000)...), 5001, 2},
		{nested(api.MaxDepth), api.MaxDepth, api.MaxDepth},
		{nested(maxLevels), maxLevels, maxLevels},
	}
	for i, x := range tests {
		if size, depth := Size(x.v), Depth(x.v); size != x.size || depth != x.depth {
			t.Errorf("%d: size %d, depth %d", i, size, depth)
		}
	}
}

// The nodes are counted level by level, not recursively.
func TestMeasuresOfRandomValues(t *testing.T) {
	eachRandom(func(v api.Value) {
		size, depth := 0, 0
		for level := []api.Value{v}; len(level) > 0; depth++ {
			size += len(level)
			var next []api.Value
			for _, v := range level {
				next = append(next, v.Items...)
			}
			level = next
		}
		if Size(v) != size || Depth(v) != depth {
			t.Errorf("%v: size %d, depth %d", v, Size(v), Depth(v))
		}
	})
}

// P2.4

func checkGet(t *testing.T, v api.Value, key string, want api.Value, exists bool) {
	t.Helper()
	if got, ok := Get(v, key); ok != exists || !reflect.DeepEqual(got, want) {
		t.Errorf("Get(%v, %q) is %v, %v", v, key, got, ok)
	}
}

func TestObject(t *testing.T) {
	tests := [][]string{
		{}, {"a"}, {""}, {"a", "b"}, {"b", "a"}, {"a", "A"}, {"", " "}, {"a", "a "}, {"a\x00", "a"}, {"\xff", "\xfe", "a b"},
	}
	for _, keys := range tests {
		var items []api.Value
		for i := range keys {
			items = append(items, Int(i+1))
		}
		v, err := Object(keys, items)
		if err != api.OK || v.Kind != api.VObject || v.Int != 0 || v.Text != "" {
			t.Errorf("Object(%q) is %v, %d", keys, v, err)
		}
		if !reflect.DeepEqual(v.Items, items) || !reflect.DeepEqual(v.Keys, keys) {
			t.Errorf("Object(%q) is %v", keys, v)
		}
		for i, key := range keys {
			checkGet(t, v, key, Int(i+1), true)
		}
		checkGet(t, v, "missing", api.Value{}, false)
	}
}

func TestObjectOfManyKeys(t *testing.T) {
	var keys []string
	var items []api.Value
	for n := range 20000 {
		keys = append(keys, strings.Repeat("k", n%7)+string(rune('0'+n)))
		items = append(items, Int(n))
	}
	v, err := Object(keys, items)
	if err != api.OK {
		t.Fatal(err)
	}
	for n := 0; n < len(keys); n += 97 {
		checkGet(t, v, keys[n], Int(n), true)
	}
	keys[len(keys)-1] = keys[0]
	if v, err := Object(keys, items); err != api.ErrTwice || !reflect.DeepEqual(v, api.Value{}) {
		t.Error(err)
	}
}

func TestObjectErrors(t *testing.T) {
	tests := []struct {
		keys  []string
		items int
		code  api.Errno
	}{
		{[]string{"a"}, 0, api.ErrArg},
		{nil, 1, api.ErrArg},
		{[]string{"a", "b"}, 1, api.ErrArg},
		{[]string{"a", "b"}, 3, api.ErrArg},
		{[]string{"a", "a"}, 1, api.ErrArg},
		{[]string{"a", "a"}, 2, api.ErrTwice},
		{[]string{"", ""}, 2, api.ErrTwice},
		{[]string{"a", "b", "a"}, 3, api.ErrTwice},
		{[]string{"a", "b", "c", "c"}, 4, api.ErrTwice},
	}
	for _, x := range tests {
		v, err := Object(x.keys, make([]api.Value, x.items))
		if err != x.code || !reflect.DeepEqual(v, api.Value{}) {
			t.Errorf("Object(%q, %d items) is %v, %d", x.keys, x.items, v, err)
		}
	}
}

func TestGet(t *testing.T) {
	v := fields("a b a", Int(1), list(Int(2)), Int(3))
	checkGet(t, v, "a", Int(1), true)
	checkGet(t, v, "b", list(Int(2)), true)
	checkGet(t, v, "", api.Value{}, false)
	checkGet(t, v, "A", api.Value{}, false)
	checkGet(t, v, "ab", api.Value{}, false)
	checkGet(t, fields("a", api.Value{}), "a", api.Value{}, true)
	checkGet(t, fields(""), "a", api.Value{}, false)
	checkGet(t, fields("a", node(77, 1, "x")), "a", node(77, 1, "x"), true)
}

func TestGetOfMissingItems(t *testing.T) {
	v := fields("a b c", Int(1), Int(2))
	checkGet(t, v, "b", Int(2), true)
	checkGet(t, v, "c", api.Value{}, false)
	checkGet(t, fields("a"), "a", api.Value{}, false)
	v = fields("a", Int(1), Int(2))
	checkGet(t, v, "a", Int(1), true)
	checkGet(t, v, "", api.Value{}, false)
}

func TestGetOfOtherKinds(t *testing.T) {
	for kind := -2; kind < 20; kind++ {
		v := fields("a", Int(1))
		v.Kind = kind
		if kind != api.VObject {
			checkGet(t, v, "a", api.Value{}, false)
		}
	}
}

// R4: arguments are not modified.
func TestArgumentsStay(t *testing.T) {
	eachRandom(func(v api.Value) {
		before := clone(v)
		Right(v)
		Literal(v)
		Size(v)
		Depth(v)
		Compare(v, v)
		Get(v, "a")
		Copy(v)
		Sort(v)
		List(v.Items)
		Object(v.Keys, v.Items)
		if !reflect.DeepEqual(v, before) {
			t.Errorf("%v has become %v", before, v)
		}
	})
}
