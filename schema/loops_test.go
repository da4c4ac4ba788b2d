package schema_test

import (
	"math/rand"
	"strconv"
	"strings"
	"testing"

	"supergraph/api"
	"supergraph/schema"
)

// P10.3, rule 4

func TestCheckLoops(t *testing.T) {
	checkText(t, "input A { a: A! }", "Depth A")
	checkText(t, "input A { x: Int! a: A! }", "Depth A")
	checkText(t, "input A { a: A! a: A! b: A! }", "Depth A, Twice A.a")
	checkText(t, "input A { b: B! } input B { c: C! } input C { a: A! }", "Depth A, Depth B, Depth C")
	// An input type that leads to a loop, or to which a loop leads, does not contain itself.
	checkText(t, "input A { b: B! } input B { b: B! c: C! } input C { x: Int }", "Depth B")
	checkText(t, "input A { b: B! } input B { c: C! } input C { b: B! d: D! } input D { e: E! } input E { d: D! }", "Depth B, Depth C, Depth D, Depth E")
	checkText(t, "input A { b: B! c: C! } input B { d: D! } input C { d: D! } input D { x: Int! }", "")
	// Every field counts, not only the first one.
	checkText(t, "input A { x: X! y: X b: B! } input X { x: Int } input B { x: X! a: A! y: X! }", "Depth A, Depth B")
	// The violation comes after those of the name, and before those of the fields.
	checkText(t, "input Query { a: Query! b: Z! }", "Kind Query, Depth Query, None Query.b")
}

func TestCheckLoopsNeedOneWrapper(t *testing.T) {
	for _, wraps := range [][]int{nil, {}, {api.WList}, {api.WNonNull, api.WList}, {api.WList, api.WNonNull}, {api.WNonNull, api.WList, api.WNonNull}, {api.WNonNull, api.WNonNull}, {0}, {3}, {-1}, {api.WNonNull, 0}, {0, api.WNonNull}} {
		checkFaults(t, doc(inputType("A", input("a", ref("A", wraps...)))), "")
		checkFaults(t, doc(inputType("A", input("b", ref("B", wraps...))), inputType("B", input("a", ref("A", api.WNonNull)))), "")
		checkFaults(t, doc(inputType("A", input("b", ref("B", api.WNonNull))), inputType("B", input("a", ref("A", wraps...)))), "")
	}
}

// Only input fields of input types belong to a chain.
func TestCheckLoopsOfOtherTypes(t *testing.T) {
	checkText(t, "type A { a(x: E!): A! } interface B { a: A! b: B! } enum E { E } union U = U", "")
	checkText(t, "input A { b: B! } type B { a(a: A!): Int! }", "Type A.b")
	checkText(t, "input A { b: Z! }", "None A.b")
	for _, kind := range []int{api.DObject, api.DInterface, api.DUnion, api.DEnum, 0, 6} {
		b := api.Def{Kind: kind, Name: "B", Inputs: []api.Input{input("a", ref("A", api.WNonNull))}}
		faults := written(schema.Check(doc(inputType("A", input("b", ref("B", api.WNonNull))), b), false))
		if strings.Contains(faults, "Depth") {
			t.Errorf("for the kind %d: %s", kind, faults)
		}
	}
}

// Of several definitions of a name, chains lead to the first one only, but begin at each of them.
func TestCheckLoopsOfRepeatedNames(t *testing.T) {
	checkText(t, "input A { a: A! } input A { x: Int }", "Depth A, Twice A")
	checkText(t, "input A { x: Int } input A { a: A! }", "Twice A, Depth A")
	checkText(t, "input A { x: Int } input A { b: B! } input B { a: A! }", "Twice A, Depth A")
	checkText(t, "input A { b: B! } input A { x: Int } input B { a: A! }", "Depth A, Twice A, Depth B")
	checkText(t, "input A { b: B! } input B { x: Int } input B { a: A! }", "Twice B, Depth B")
	checkText(t, "input A { x: Int } input A { b: B! } input B { x: Int } input B { a: A! }", "Twice A, Twice B")
	checkText(t, "input A { c: C! } input A { b: B! } input B { b: B! } input C { x: Int }", "Twice A, Depth B")
	// The end of a chain is a name, whatever its first definition is.
	checkText(t, "type A { x: Int } input A { a: A! }", "Twice A, Depth A, Type A.a")
	checkText(t, "type A { x: Int } input A { b: B! } input B { a: A! }", "Twice A, Depth A, Type B.a")
	checkText(t, "enum A { X } input A { b: B! } input B { a: A! } input A { x: Int }", "Twice A, Depth A, Twice A")
	checkText(t, "input A { a: A! } type A { x: Int }", "Depth A, Twice A")
	checkText(t, "input Int { x: Int! } input A { x: Int! }", "Twice Int, Depth Int")
	checkText(t, "input ID { a: A! } input A { x: ID! }", "Twice ID, Depth ID, Depth A")
}

// All ways in which four input types can contain each other.
func TestCheckAllLoops(t *testing.T) {
	const count = 4
	for ways := range 1 << (count * count) {
		var d api.Doc
		var leads [count][count]bool
		for i := range count {
			l := []api.Input{input("x", ref("Int", api.WNonNull))}
			for k := range count {
				leads[i][k] = ways>>(count*i+k)&1 == 1
				if leads[i][k] {
					l = append(l, input("a"+strconv.Itoa(k), ref("A"+strconv.Itoa(k), api.WNonNull)))
				}
			}
			d.Defs = append(d.Defs, inputType("A"+strconv.Itoa(i), l...))
		}
		for via := range count {
			for i := range count {
				for k := range count {
					leads[i][k] = leads[i][k] || leads[i][via] && leads[via][k]
				}
			}
		}
		var want []string
		for i := range count {
			if leads[i][i] {
				want = append(want, "Depth A"+strconv.Itoa(i))
			}
		}
		if got := written(schema.Check(d, false)); got != strings.Join(want, ", ") {
			t.Fatalf("%s: %s", textOf(d), got)
		}
	}
}

func TestCheckRandomLoops(t *testing.T) {
	r := rand.New(rand.NewSource(4))
	for range 3000 {
		var d api.Doc
		count := 1 + r.Intn(40)
		names := 1 + r.Intn(count)
		for range count {
			var l []api.Input
			for i := range r.Intn(3) {
				l = append(l, input("a"+strconv.Itoa(i), ref("A"+strconv.Itoa(r.Intn(names)), 1+r.Intn(9)/8)))
			}
			kind := api.DInput - r.Intn(9)/8
			d.Defs = append(d.Defs, api.Def{Kind: kind, Name: "A" + strconv.Itoa(r.Intn(names)), Inputs: l, Members: []api.Member{{Name: "X"}}})
		}
		checkFaults(t, d, written(expectedFaults(d, false)))
	}
}

// circle returns input types each of which contains the next ones after so many steps, at last the first ones.
func circle(count int, steps ...int) api.Doc {
	var d api.Doc
	for i := range count {
		var l []api.Input
		for k, step := range steps {
			l = append(l, input("a"+strconv.Itoa(k), ref("A"+strconv.Itoa((i+step)%count), api.WNonNull)))
		}
		d.Defs = append(d.Defs, inputType("A"+strconv.Itoa(i), l...))
	}
	return d
}

func checkDepths(t *testing.T, d api.Doc, want int) {
	t.Helper()
	l := schema.Check(d, false)
	if len(l) != want {
		t.Fatalf("there are %d violations, not %d", len(l), want)
	}
	for i, x := range l {
		if x.Err != api.ErrDepth || x.At != d.Defs[i].Name {
			t.Fatal(x)
		}
	}
}

// Chains can be long. With a search from each definition, this test would not end.
func TestCheckLongLoops(t *testing.T) {
	const count = 1 << 16
	d := circle(count, 1)
	checkDepths(t, d, count)
	d.Defs[count-1].Inputs[0].Type.Wraps = nil
	checkDepths(t, d, 0)
	d.Defs[count-1].Inputs[0].Type = ref("A"+strconv.Itoa(count/2), api.WNonNull)
	l := schema.Check(d, false)
	if len(l) != count/2 || l[0].At != "A"+strconv.Itoa(count/2) {
		t.Error(len(l))
	}
	checkDepths(t, circle(count, 1, 2, 3, 5, 7, 11, 13, 64, 1000, count-1), count)
}
