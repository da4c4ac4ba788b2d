package value

import (
	"regexp"
	"slices"
	"strconv"
	"strings"
	"testing"

	"supergraph/api"
)

// P2.1

func checkRight(t *testing.T, name string, v api.Value, right, literal bool) {
	t.Helper()
	if got := Right(v); got != right {
		t.Errorf("Right of %s is %v", name, got)
	}
	if got := Literal(v); got != literal {
		t.Errorf("Literal of %s is %v", name, got)
	}
}

var namePattern = regexp.MustCompile(`^[A-Za-z_][A-Za-z0-9_]{0,63}$`)

// isRightNode says of one node what the chapter lists, without the limits.
func isRightNode(v api.Value, literal bool) bool {
	usesInt := v.Kind == api.VBool || v.Kind == api.VInt
	usesText := v.Kind == api.VText || v.Kind == api.VEnum || v.Kind == api.VVar
	usesItems := v.Kind == api.VList || v.Kind == api.VObject
	usesKeys := v.Kind == api.VObject
	switch {
	case v.Kind < api.VNull || v.Kind > api.VVar,
		v.Kind == api.VVar && !literal,
		!usesInt && v.Int != 0,
		!usesText && v.Text != "",
		!usesItems && len(v.Items) > 0,
		!usesKeys && len(v.Keys) > 0,
		v.Kind == api.VBool && v.Int != 0 && v.Int != 1,
		v.Kind == api.VEnum && slices.Contains([]string{"true", "false", "null"}, v.Text),
		(v.Kind == api.VEnum || v.Kind == api.VVar) && !namePattern.MatchString(v.Text):
		return false
	}
	if v.Kind != api.VObject {
		return true
	}
	for i, key := range v.Keys {
		if slices.Contains(v.Keys[:i], key) || literal && !namePattern.MatchString(key) {
			return false
		}
	}
	return len(v.Keys) == len(v.Items)
}

func isRight(v api.Value, literal bool) bool {
	if !isRightNode(v, literal) {
		return false
	}
	for _, item := range v.Items {
		if !isRight(item, literal) {
			return false
		}
	}
	return true
}

func TestRightOfRandomValues(t *testing.T) {
	right, wrong := 0, 0
	eachRandom(func(v api.Value) {
		checkRight(t, "a value", v, isRight(v, false), isRight(v, true))
		if isRight(v, false) {
			right++
		} else {
			wrong++
		}
	})
	if right < 1000 || wrong < 1000 {
		t.Error(right, wrong)
	}
}

// Every kind with every combination of fields that are set.
func TestRightOfFields(t *testing.T) {
	texts := []string{"", "a", "true", "false", "null", "True", "1", "a-b", "__x", "on"}
	items := [][]api.Value{nil, {}, {{}}, {{}, {}}}
	keys := [][]string{nil, {}, {"a"}, {""}, {"a b"}, {"1"}, {"true"}, {"__k"}, {"a", "a"}, {"a", "b"}, {"a", "b", "c"}}
	for kind := -3; kind < 14; kind++ {
		for n := -1; n <= 2; n++ {
			for _, s := range texts {
				for _, i := range items {
					for _, k := range keys {
						v := api.Value{Kind: kind, Int: n, Text: s, Items: i, Keys: k}
						checkRight(t, "a node", v, isRight(v, false), isRight(v, true))
						checkRight(t, "a list", list(Int(1), v), isRight(v, false), isRight(v, true))
						checkRight(t, "an object", fields("x y", v, list()), isRight(v, false), isRight(v, true))
					}
				}
			}
		}
	}
}

func TestRightExamples(t *testing.T) {
	variable := node(api.VVar, 0, "a")
	checkRight(t, "{\"a b\": null}", api.Value{Kind: api.VObject, Keys: []string{"a b"}, Items: make([]api.Value, 1)}, true, false)
	checkRight(t, "$a", variable, false, true)
	checkRight(t, "[$a]", list(variable), false, true)
	checkRight(t, "{b: [{a: $a}]}", fields("b", list(fields("a", variable))), false, true)
	checkRight(t, "$null", node(api.VVar, 0, "null"), false, true)
	checkRight(t, "$", node(api.VVar, 0, ""), false, false)
	checkRight(t, "a reference", node(api.VRef, 0, ""), false, false)
	checkRight(t, "a failed field", node(api.VFail, 0, "x"), false, false)
	checkRight(t, "an inner failed field", fields("a", list(node(api.VFail, 0, "x"))), false, false)
	checkRight(t, "an inner repeated key", list(fields("a a", Int(1), Int(1))), false, false)
	checkRight(t, "equal keys of two objects", fields("a b", fields("a", Int(1)), fields("a", Int(1))), true, true)
	checkRight(t, "null", api.Value{}, true, true)
	checkRight(t, "empty lists", api.Value{Items: []api.Value{}, Keys: []string{}}, true, true)
	checkRight(t, "{}", fields(""), true, true)
}

func TestRightNameLengths(t *testing.T) {
	for n := range 100 {
		s := strings.Repeat("x", n)
		fits := n >= 1 && n <= api.MaxName
		checkRight(t, "an enumeration value", Enum(s), fits, fits)
		checkRight(t, "a variable", node(api.VVar, 0, s), false, fits)
		checkRight(t, "a key", api.Value{Kind: api.VObject, Keys: []string{s}, Items: make([]api.Value, 1)}, true, fits)
	}
}

func TestRightDepth(t *testing.T) {
	for _, levels := range []int{1, 2, api.MaxDepth - 1, api.MaxDepth, api.MaxDepth + 1, api.MaxDepth + 2, maxLevels} {
		fits := levels <= api.MaxDepth
		checkRight(t, "nested lists", nested(levels), fits, fits)
		checkRight(t, "a deep last item", fields("a b", Int(1), nested(levels)), levels < api.MaxDepth, levels < api.MaxDepth)
	}
	v := list()
	for range api.MaxDepth - 1 {
		v = list(v)
	}
	checkRight(t, "an empty list on the last level", v, true, true)
	checkRight(t, "an empty list below it", list(v), false, false)
}

func TestRightSize(t *testing.T) {
	for _, nodes := range []int{api.MaxNodes - 1, api.MaxNodes, api.MaxNodes + 1, 2 * api.MaxNodes, 100 * api.MaxNodes} {
		fits := nodes <= api.MaxNodes
		checkRight(t, "a long list", list(make([]api.Value, nodes-1)...), fits, fits)
		// The root, two lists, and the rest shared between them.
		half := (nodes - 3) / 2
		checkRight(t, "two lists", list(list(make([]api.Value, half)...), list(make([]api.Value, nodes-3-half)...)), fits, fits)
		pairs := slices.Repeat([]api.Value{list(Int(1))}, nodes/2)
		fits = 1+2*len(pairs) <= api.MaxNodes
		checkRight(t, "lists of one item", list(pairs...), fits, fits)
	}
}

func TestRightObjectSize(t *testing.T) {
	for _, nodes := range []int{api.MaxNodes - 1, api.MaxNodes, api.MaxNodes + 1, 100 * api.MaxNodes} {
		fits := nodes <= api.MaxNodes
		big := api.Value{Kind: api.VObject}
		for n := range nodes - 1 {
			big.Keys = append(big.Keys, "k"+strconv.Itoa(n))
			big.Items = append(big.Items, Int(n))
		}
		checkRight(t, "a big object", big, fits, fits)
	}
}

// Values whose slices are shared have more nodes than memory; the limits are to be noticed early.
func TestRightOfSharedSlices(t *testing.T) {
	v := list()
	for range 60 {
		v = list(v, v, v, v)
	}
	checkRight(t, "a value of many nodes", v, false, false)
	loop := make([]api.Value, 1)
	loop[0] = list(loop...)
	loop[0].Items = loop
	checkRight(t, "a value that contains itself", loop[0], false, false)
}
