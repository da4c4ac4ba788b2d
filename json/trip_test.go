package json_test

import (
	"math"
	"math/rand"
	"reflect"
	"strconv"
	"strings"
	"testing"

	"supergraph/api"
	"supergraph/json"
	"supergraph/value"
)

// rightValue returns a plain value with at most so many levels.
func rightValue(r *rand.Rand, levels int) api.Value {
	kind := r.Intn(5)
	if levels > 1 && r.Intn(3) > 0 {
		kind = api.VList + r.Intn(2)
	}
	switch kind {
	case api.VBool:
		return node(api.VBool, r.Intn(2), "")
	case api.VInt:
		return number([]int{0, 7, -1, 120, -98765}[r.Intn(5)])
	case api.VText:
		return text([]string{"", "a", "null", "\"\\\n", "é\x00\xff", "[1,{}", "/"}[r.Intn(7)])
	case api.VEnum:
		return node(api.VEnum, 0, []string{"RED", "_a1", "x"}[r.Intn(3)])
	case api.VList, api.VObject:
		v := node(kind, 0, "")
		keys := []string{"", "aaa", "b b b", "cc\"\\\n", "\xff\xfe\xfd\xfc", "nullll"}
		for _, n := range r.Perm(r.Intn(len(keys))) {
			v.Items = append(v.Items, rightValue(r, levels-1))
			if kind == api.VObject {
				v.Keys = append(v.Keys, keys[n])
			}
		}
		return v
	}
	return api.Value{}
}

func same(a, b api.Value) bool { return reflect.DeepEqual(normal(a), normal(b)) }

// withoutEnums returns v with the names of enumeration values as strings.
func withoutEnums(v api.Value) api.Value {
	if v.Kind == api.VEnum {
		v.Kind = api.VText
	}
	items := v.Items
	v.Items = nil
	for _, item := range items {
		v.Items = append(v.Items, withoutEnums(item))
	}
	return v
}

// manyRight returns random plain values, and those that reach the limits.
func manyRight() []api.Value {
	r := rand.New(rand.NewSource(3))
	all := ""
	for c := range 256 {
		all += string([]byte{byte(c)})
	}
	values := []api.Value{
		text(all), fields([]string{all, all[1:]}, text(all), list(text(all))),
		number(math.MinInt), number(math.MaxInt), list(number(math.MinInt), number(math.MaxInt)),
		nested(number(1), api.MaxDepth-1), nested(list(), api.MaxDepth-1), nested(fields(nil), api.MaxDepth-1),
		list(make([]api.Value, api.MaxNodes-1)...), fields([]string{strings.Repeat("k", 1000)}, node(api.VEnum, 0, "A")),
		node(api.VEnum, 0, strings.Repeat("x", api.MaxName)),
	}
	big := api.Value{Kind: api.VObject}
	for n := range api.MaxNodes - 1 {
		big.Keys, big.Items = append(big.Keys, strconv.Itoa(n)), append(big.Items, node(api.VEnum, 0, "e"+strconv.Itoa(n)))
	}
	values = append(values, big)
	for range 3000 {
		values = append(values, rightValue(r, 6))
	}
	return values
}

// P3.3

func TestParseWhatIsPrinted(t *testing.T) {
	for _, v := range manyRight() {
		if !value.Right(v) {
			t.Fatalf("%v is not right", v)
		}
		s, err := json.Print(v)
		if err != api.OK {
			t.Errorf("Print(%v) fails with %d", v, err)
		}
		checkValue(t, s, withoutEnums(v))
	}
}

// P3.4

func checkParsedAgain(t *testing.T, s string) {
	t.Helper()
	v, _, err := json.Parse(s)
	if err != api.OK {
		t.Fatalf("Parse(%q) fails with %d", s, err)
	}
	if !value.Right(v) {
		t.Errorf("Parse(%q) is %v, which is not plain", s, v)
	}
	printed, err := json.Print(v)
	if err != api.OK {
		t.Errorf("Print(%v) fails with %d", v, err)
	}
	checkValue(t, printed, v)
}

func TestParsedValuesArePlain(t *testing.T) {
	r := rand.New(rand.NewSource(4))
	for range 3000 {
		s, _ := json.Print(rightValue(r, 5))
		checkParsedAgain(t, spread(r, s))
	}
	for _, s := range []string{
		"null", " true", "false ", "0", "-1", `""`, `"\/\b\f\u00e9"`, "[ ]", "{ }", `{"\u0061":[1 , null]}`, `{"true":"true","":" "}`,
		strings.Repeat("[", api.MaxDepth) + strings.Repeat("]", api.MaxDepth), repeatList("{ }", api.MaxNodes-1), repeatList(`"\/"`, api.MaxNodes-1),
	} {
		checkParsedAgain(t, s)
	}
}

func TestSpacesAroundTexts(t *testing.T) {
	deep := strings.Repeat("[", api.MaxDepth)
	texts := []string{
		"null", "true", "false", "0", "-15", "9223372036854775807", `""`, `"a b"`, "[]", "[1,2]", "{}", `{"a":[1]}`, " [ ] ",
		"", "x", "nul", "nulx", "-", "01", "1.5", `"`, `"a`, `"\`, `"\u00`, "[", "[1", "[1,", "[1,]", "{", `{"a`, `{"a"`, `{"a":`, `{"a":1`, `{"a":1,`, "1 2", "]",
		"9223372036854775808", "[9223372036854775808", `{"a":1,"a"`, `{"a":1,"a":2}`, deep + "1", deep, repeatList("0", api.MaxNodes), "\x00", "1\x00",
	}
	for _, s := range texts {
		v, at, err := json.Parse(s)
		for _, before := range []string{"", " ", "\t", "\n", "\r", " \t\n\r \r\n"} {
			for _, after := range []string{"", " ", "\t", "\n", "\r", " \t\n\r \r\n"} {
				got, index, code := json.Parse(before + s + after)
				if !same(got, v) || code != err {
					t.Errorf("Parse(%.100q) is %v, %d, not %v, %d", before+s+after, got, code, v, err)
				}
				if err != api.OK && at < len(s) && index != len(before)+at {
					t.Errorf("Parse(%.100q) fails at %d", before+s+after, index)
				}
			}
		}
	}
}

// P3.5

func TestParsePrefixes(t *testing.T) {
	values := manyRight()
	values = append(values[:8], values[len(values)-150:]...)
	for _, v := range values {
		if v.Kind != api.VText && v.Kind != api.VList && v.Kind != api.VObject {
			continue
		}
		s, _ := json.Print(v)
		for i := range len(s) {
			checkError(t, s[:i], i, api.ErrForm)
		}
	}
}

// The text of MaxNodes values, of which every end is wrong, but no beginning.
func TestParsePrefixesOfTheLargestValue(t *testing.T) {
	s := repeatList("1", api.MaxNodes-1)
	for i := 0; i < len(s); i += 31 {
		checkError(t, s[:i], i, api.ErrForm)
	}
	checkError(t, s[:len(s)-1], len(s)-1, api.ErrForm)
}

func TestResultsShareNoSlices(t *testing.T) {
	const s = `[[1,2],[1,2],{"a":[]},{"a":[]}]`
	first, _, _ := json.Parse(s)
	if len(first.Items) != 4 {
		t.Fatal(first)
	}
	first.Items[0].Items[0] = number(9)
	_ = append(first.Items[0].Items[:1], number(8))
	first.Items[2].Keys[0] = "b"
	if !same(first.Items[1], list(number(1), number(2))) || first.Items[3].Keys[0] != "a" {
		t.Errorf("changes are seen elsewhere: %v", first)
	}
	checkValue(t, s, list(list(number(1), number(2)), list(number(1), number(2)), fields([]string{"a"}, list()), fields([]string{"a"}, list())))
}
