package value

import (
	"cmp"
	"math"
	"math/rand"
	"reflect"
	"slices"
	"sort"
	"strings"
	"testing"

	"supergraph/api"
)

// P2.3

// part is one of the things that are compared, in order: a number, or a text.
type part struct {
	number int
	text   string
}

// parts lists v so that the order of values is the order of these lists: an item is preceded by the
// number 1, and the end of the items, which is smaller, is the number 0.
func parts(v api.Value) []part {
	list := []part{{number: v.Kind}, {number: v.Int}, {text: v.Text}}
	for i, item := range v.Items {
		key := ""
		if i < len(v.Keys) {
			key = v.Keys[i]
		}
		list = append(list, part{number: 1}, part{text: key})
		list = append(list, parts(item)...)
	}
	return append(list, part{number: 0})
}

func compareParts(a, b []part) int {
	return slices.CompareFunc(a, b, func(a, b part) int {
		return cmp.Or(cmp.Compare(a.number, b.number), strings.Compare(a.text, b.text))
	})
}

func checkCompare(t *testing.T, a, b api.Value, want int) {
	t.Helper()
	if got := Compare(a, b); got != want {
		t.Errorf("Compare(%v, %v) is %d", a, b, got)
	}
	if got := Compare(b, a); got != -want {
		t.Errorf("Compare(%v, %v) is %d", b, a, got)
	}
	if Same(a, b) != (want == 0) || Same(b, a) != (want == 0) {
		t.Errorf("Same(%v, %v) is %v", a, b, Same(a, b))
	}
}

// The first value of each pair is the smaller one.
func TestCompareSmaller(t *testing.T) {
	tests := [][2]api.Value{
		{list(Int(1)), list(Int(1), Int(2))},
		{list(), list(api.Value{})},
		{Int(math.MinInt), Int(math.MaxInt)},
		{Int(-1), Int(0)},
		{Int(math.MaxInt), Text("")},
		{Text("a"), Text("aa")},
		{Text("aa"), Text("b")},
		{Text("B"), Text("a")},
		{Text("z"), Text("é")},
		{Text("\x7f"), Text("\x80")},
		{Text("a"), Text("a\x00")},
		{Text("\uffff"), Text("\U00010000")},
		{Text("zzz"), Enum("a")},
		{Bool(true), Int(0)},
		{node(-1, 9, "z"), api.Value{}},
		{node(math.MinInt, 0, ""), node(math.MaxInt, 0, "")},
		{api.Value{Kind: 3, Int: 1, Text: "b"}, api.Value{Kind: 3, Int: 2, Text: "a"}},
		{api.Value{Text: "a", Items: make([]api.Value, 9)}, api.Value{Text: "b"}},
		{list(Int(1), Int(9)), list(Int(2))},
		{list(Int(9)), list(Text(""), Int(1))},
		{list(list(Int(1)), Int(5)), list(list(Int(1), Int(1)), Int(1))},
		{fields("a", Int(9)), fields("b", Int(1))},
		{fields("a", Int(1)), fields("a", Int(2))},
		{fields("a b", Int(1), Int(9)), fields("b a", Int(1), Int(1))},
		{fields("a", Int(1)), fields("a b", Int(1), Int(0))},
		{fields("a z", Int(1), Int(1)), fields("a b", Int(2), Int(1))},
		{fields("", Int(1)), fields("a", Int(1))},
		{fields("a", Int(1), Int(5)), fields("a b", Int(1), Int(1))},
		{fields("a b", Int(1)), fields("a", Int(1), Int(1))},
		{api.Value{Kind: api.VInt, Items: []api.Value{{}}}, api.Value{Kind: api.VInt, Items: []api.Value{{}, {}}}},
		{api.Value{Kind: api.VList, Keys: []string{"a"}, Items: []api.Value{Int(2)}}, api.Value{Kind: api.VList, Keys: []string{"b"}, Items: []api.Value{Int(1)}}},
		{api.Value{Kind: api.VInt, Items: []api.Value{Int(2)}}, api.Value{Kind: api.VInt, Keys: []string{"b"}, Items: []api.Value{Int(1)}}},
		{api.Value{Kind: api.VRef, Items: []api.Value{Int(1)}}, api.Value{Kind: api.VRef, Items: []api.Value{Int(2)}}},
	}
	for _, x := range tests {
		checkCompare(t, x[0], x[1], -1)
	}
}

func TestCompareEqual(t *testing.T) {
	tests := [][2]api.Value{
		{api.Value{}, api.Value{}},
		{list(), api.Value{Kind: api.VList, Items: []api.Value{}, Keys: []string{}}},
		{fields("a"), fields("b c")},
		{fields("a", Int(1)), fields("a b c", Int(1))},
		{fields("", Int(1)), api.Value{Kind: api.VObject, Keys: []string{""}, Items: []api.Value{Int(1)}}},
		{api.Value{Kind: api.VText, Keys: []string{"x"}}, Text("")},
		{node(40, -3, "x"), node(40, -3, "x")},
		{nested(maxLevels), nested(maxLevels)},
	}
	for _, x := range tests {
		checkCompare(t, x[0], x[1], 0)
	}
	deep := nested(maxLevels)
	deep.Text = "x"
	checkCompare(t, nested(maxLevels), deep, -1)
	checkCompare(t, nested(maxLevels), nested(maxLevels+1), -1)
}

func randomPool() []api.Value {
	r := rand.New(rand.NewSource(3))
	var pool []api.Value
	for range 120 {
		v := anyValue(r, 4)
		changed := clone(v)
		if len(changed.Items) > 0 {
			changed.Items[len(changed.Items)-1] = anyValue(r, 2)
		}
		pool = append(pool, v, changed, anyValue(r, 1), plainValue(r, 3))
	}
	return pool
}

func TestCompareRandomPairs(t *testing.T) {
	pool := randomPool()
	for _, a := range pool {
		for _, b := range pool {
			checkCompare(t, a, b, compareParts(parts(a), parts(b)))
		}
	}
}

func TestCompareIsTransitive(t *testing.T) {
	pool := randomPool()[:140]
	for _, a := range pool {
		for _, b := range pool {
			if Compare(a, b) > 0 {
				continue
			}
			for _, c := range pool {
				if Compare(b, c) <= 0 && Compare(a, c) > 0 {
					t.Fatalf("%v, %v and %v are not ordered", a, b, c)
				}
			}
		}
	}
}

// P2.5

// addresses adds the addresses of all elements of the slices of v, and reports whether they are new.
func addresses(v api.Value, seen map[any]bool) bool {
	fresh := true
	add := func(address any) {
		fresh = fresh && !seen[address]
		seen[address] = true
	}
	for i := range v.Keys {
		add(&v.Keys[i])
	}
	for i := range v.Items {
		add(&v.Items[i])
		fresh = addresses(v.Items[i], seen) && fresh
	}
	return fresh
}

func TestCopy(t *testing.T) {
	eachRandom(func(v api.Value) {
		c := Copy(v)
		if !reflect.DeepEqual(c, v) || !Same(c, v) {
			t.Errorf("the copy of %v is %v", v, c)
		}
		seen := map[any]bool{}
		if !addresses(v, seen) || !addresses(c, seen) {
			t.Errorf("the copy of %v shares memory", v)
		}
		if !addresses(Sort(v), seen) {
			t.Errorf("%v, sorted, shares memory", v)
		}
	})
}

func TestCopyOfSharedSlices(t *testing.T) {
	inner := fields("b a", Int(1), Int(2))
	v := list(inner, inner, list(inner))
	for _, c := range []api.Value{Copy(v), Sort(v)} {
		seen := map[any]bool{}
		addresses(v, seen)
		if !addresses(c, seen) {
			t.Errorf("%v shares memory", c)
		}
	}
	c := Copy(v)
	c.Items[0].Keys[0] = "x"
	c.Items[1].Items[0] = Int(9)
	checkValue(t, "the original", v, list(inner, inner, list(inner)))
	checkValue(t, "the first item", c.Items[0], fields("x a", Int(1), Int(2)))
	checkValue(t, "the last item", c.Items[2], list(fields("b a", Int(1), Int(2))))
}

func TestDeepCopies(t *testing.T) {
	v := nested(maxLevels)
	if !Same(Copy(v), v) || !Same(Sort(v), v) {
		t.Error("a deep value")
	}
}

func TestSortExamples(t *testing.T) {
	tests := [][2]api.Value{
		{fields("b a", Int(1), Int(2)), fields("a b", Int(2), Int(1))},
		{fields("a b", Int(1), Int(2)), fields("a b", Int(1), Int(2))},
		{fields("c b a", Int(1), Int(2), Int(3)), fields("a b c", Int(3), Int(2), Int(1))},
		{fields("b a b a", Int(1), Int(2), Int(3), Int(4)), fields("a a b b", Int(2), Int(4), Int(1), Int(3))},
		{fields("aa a B é \xff", Int(1), Int(2), Int(3), Int(4), Int(5)), fields("B a aa é \xff", Int(3), Int(2), Int(1), Int(4), Int(5))},
		{list(Int(3), Int(1)), list(Int(3), Int(1))},
		{list(Int(3), fields("b a", Int(1), Int(2))), list(Int(3), fields("a b", Int(2), Int(1)))},
		{fields("b a", fields("d c", Int(1), Int(2)), Int(3)), fields("a b", Int(3), fields("c d", Int(2), Int(1)))},
		{fields("b a", Int(1)), fields("b a", Int(1))},
		{fields("b a", Int(1), Int(2), Int(0)), fields("b a", Int(1), Int(2), Int(0))},
		{fields("b", Int(1), fields("d c", Int(1), Int(2))), fields("b", Int(1), fields("c d", Int(2), Int(1)))},
		{fields("c b a", fields("d c", Int(1), Int(2))), fields("c b a", fields("c d", Int(2), Int(1)))},
		{api.Value{}, api.Value{}},
	}
	for _, x := range tests {
		checkValue(t, "Sort", Sort(x[0]), x[1])
	}
}

func TestSortKeepsOtherKinds(t *testing.T) {
	for kind := -2; kind < 20; kind++ {
		v, want := fields("b a", fields("d c", Int(1), Int(2)), Int(0)), fields("b a", fields("c d", Int(2), Int(1)), Int(0))
		if kind == api.VObject {
			want = fields("a b", want.Items[1], want.Items[0])
		}
		v.Kind, want.Kind = kind, kind
		checkValue(t, "Sort", Sort(v), want)
	}
}

// expectedSort sorts pairs of keys and items instead of two slices.
func expectedSort(v api.Value) api.Value {
	type pair struct {
		key  string
		item api.Value
	}
	result := clone(v)
	for i, item := range v.Items {
		result.Items[i] = expectedSort(item)
	}
	if v.Kind != api.VObject || len(v.Keys) != len(v.Items) {
		return result
	}
	var pairs []pair
	for i, key := range result.Keys {
		pairs = append(pairs, pair{key, result.Items[i]})
	}
	sort.SliceStable(pairs, func(i, k int) bool { return pairs[i].key < pairs[k].key })
	for i, p := range pairs {
		result.Keys[i], result.Items[i] = p.key, p.item
	}
	return result
}

func TestSortRandomValues(t *testing.T) {
	eachRandom(func(v api.Value) {
		sorted := Sort(v)
		checkValue(t, "Sort", sorted, expectedSort(v))
		checkValue(t, "Sort of a sorted value", Sort(sorted), sorted)
		if Size(sorted) != Size(v) || Depth(sorted) != Depth(v) {
			t.Errorf("sorting %v changes its size or depth", v)
		}
		if Right(sorted) != Right(v) || Literal(sorted) != Literal(v) {
			t.Errorf("sorting %v changes whether it is right", v)
		}
	})
}

func TestSortKeepsTheOrderOfEqualKeys(t *testing.T) {
	v := api.Value{Kind: api.VObject}
	for n := range 1000 {
		v.Keys = append(v.Keys, string(rune('a'+n*7%5)))
		v.Items = append(v.Items, Int(n))
	}
	checkValue(t, "Sort", Sort(v), expectedSort(v))
}

// shuffle brings the elements of all objects into another order.
func shuffle(r *rand.Rand, v api.Value) {
	if v.Kind == api.VObject {
		r.Shuffle(len(v.Items), func(i, k int) {
			v.Keys[i], v.Keys[k] = v.Keys[k], v.Keys[i]
			v.Items[i], v.Items[k] = v.Items[k], v.Items[i]
		})
	}
	for _, item := range v.Items {
		shuffle(r, item)
	}
}

func TestSortOfEveryOrder(t *testing.T) {
	r := rand.New(rand.NewSource(4))
	for range 3000 {
		v := plainValue(r, 5)
		other := clone(v)
		shuffle(r, other)
		checkValue(t, "Sort of another order", Sort(other), Sort(v))
	}
	big := api.Value{Kind: api.VObject}
	for n := range 5000 {
		big.Keys = append(big.Keys, string(rune('a'+n%26))+strings.Repeat("x", n/26))
		big.Items = append(big.Items, Int(n))
	}
	other := clone(big)
	shuffle(r, other)
	checkValue(t, "Sort of a big object", Sort(other), expectedSort(big))
}
