package typeref_test

import (
	"fmt"
	"strings"
	"testing"

	"supergraph/api"
	"supergraph/typeref"
)

// A leveled is a right reference: so many lists, of which the level i, counted from the outermost
// one, is non-null if the bit i is set.
type leveled struct {
	name  string
	lists int
	bits  int
}

func (x leveled) ref() api.Ref {
	wraps := ""
	for i := range x.lists + 1 {
		if i > 0 {
			wraps += "L"
		}
		if x.bits>>i&1 == 1 {
			wraps += "N"
		}
	}
	return ref(x.name, wraps)
}

func allLeveled(mostLists int, names ...string) []leveled {
	var all []leveled
	for _, name := range names {
		for lists := range mostLists + 1 {
			for bits := range 2 << lists {
				all = append(all, leveled{name, lists, bits})
			}
		}
	}
	return all
}

// checkLeveled compares a and b in the terms of their bits.
func checkLeveled(t *testing.T, a, b leveled) {
	t.Helper()
	call := fmt.Sprint(" of ", a, " and ", b)
	shape := a.name == b.name && a.lists == b.lists
	x, y := a.ref(), b.ref()
	checkBool(t, "Same"+call, typeref.Same(x, y), a == b)
	checkBool(t, "Shape"+call, typeref.Shape(x, y), shape)
	checkBool(t, "Fits"+call, typeref.Fits(x, y), shape && a.bits&b.bits == b.bits)
	weak, ok := typeref.Weaken(x, y)
	checkBool(t, "Weaken"+call, ok, shape)
	want := api.Ref{}
	if shape {
		want = leveled{a.name, a.lists, a.bits & b.bits}.ref()
	}
	checkRef(t, "Weaken"+call, weak, want)
	if !equal(x, a.ref()) || !equal(y, b.ref()) {
		t.Error("modified arguments" + call)
	}
}

// P5.2

func TestCompareRight(t *testing.T) {
	all := allLeveled(3, "User", "Post")
	for _, a := range all {
		for _, b := range all {
			checkLeveled(t, a, b)
		}
	}
}

// Every level of references with many levels is compared.
func TestCompareDeep(t *testing.T) {
	for lists := range 13 {
		every := 2<<lists - 1
		if 2*lists+1 > api.MaxDepth {
			every = 2<<lists - 2
		}
		for i := range lists + 1 {
			for k := range lists + 1 {
				one := leveled{"User", lists, 1 << i}
				checkLeveled(t, one, leveled{"User", lists, 1 << k})
				checkLeveled(t, one, leveled{"User", lists, every &^ (1 << k)})
				checkLeveled(t, leveled{"User", lists, every &^ (1 << i)}, leveled{"User", lists, every &^ (1 << k)})
			}
			checkLeveled(t, leveled{"User", lists, 1 << i}, leveled{"User", lists + 1, 1 << i})
		}
		checkLeveled(t, leveled{"User", lists, 0}, leveled{"User", lists, every})
		checkLeveled(t, leveled{"User", lists, every}, leveled{"User", lists, 0})
	}
	for lists := 13; lists <= 24; lists++ {
		for i := range lists {
			checkLeveled(t, leveled{"User", lists, 0}, leveled{"User", i, 0})
		}
		checkLeveled(t, leveled{"User", lists, 0}, leveled{"User", lists, 0})
		checkLeveled(t, leveled{"User", lists, 0}, leveled{"Use", lists, 0})
	}
}

// Same and Shape are defined for references that are not right, too.
func TestCompareWrong(t *testing.T) {
	var all []string
	eachWraps("NL3", 4, func(wraps string) { all = append(all, wraps) })
	for _, a := range all {
		for _, b := range all {
			call := " of " + a + " and " + b
			shape := strings.ReplaceAll(a, "N", "") == strings.ReplaceAll(b, "N", "")
			for _, names := range [][2]string{{"", ""}, {"a b", "a b"}, {"a", "b"}, {"a", ""}, {"User", "user"}} {
				x, y := ref(names[0], a), ref(names[1], b)
				checkBool(t, "Same"+call, typeref.Same(x, y), names[0] == names[1] && a == b)
				checkBool(t, "Shape"+call, typeref.Shape(x, y), names[0] == names[1] && shape)
			}
		}
	}
}

func TestCompareNilAndEmpty(t *testing.T) {
	a, b := api.Ref{Name: "a"}, api.Ref{Name: "a", Wraps: []int{}}
	for _, x := range [][2]api.Ref{{a, b}, {b, a}, {b, b}} {
		weak, ok := typeref.Weaken(x[0], x[1])
		if !typeref.Same(x[0], x[1]) || !typeref.Shape(x[0], x[1]) || !typeref.Fits(x[0], x[1]) || !ok || !equal(weak, a) {
			t.Error(x)
		}
	}
}

func TestCompareExamples(t *testing.T) {
	user, list := ref("User", ""), ref("User", "L")
	checkBool(t, "Shape of [User!] and [User]!", typeref.Shape(ref("User", "LN"), ref("User", "NL")), true)
	weak, ok := typeref.Weaken(ref("User", "NLN"), ref("User", "LN"))
	checkBool(t, "Weaken of [User!]! and [User!]", ok, true)
	checkRef(t, "Weaken of [User!]! and [User!]", weak, ref("User", "LN"))
	checkBool(t, "[User!]! fits [User]", typeref.Fits(ref("User", "NLN"), list), true)
	checkBool(t, "User fits User!", typeref.Fits(user, ref("User", "N")), false)
	checkBool(t, "User fits [User]", typeref.Fits(user, list), false)
	checkBool(t, "[User] fits User", typeref.Fits(list, user), false)
	checkBool(t, "[[User]] fits [User]", typeref.Fits(ref("User", "LL"), list), false)
}

// callUnspecified makes the calls whose results are unspecified for references that are not right: they must return.
func callUnspecified(a, b api.Ref) {
	typeref.Print(a)
	typeref.Fits(a, b)
	typeref.Weaken(a, b)
}

func TestCompareEnds(t *testing.T) {
	var all []api.Ref
	eachWraps("NL03-", 3, func(wraps string) { all = append(all, ref("a", wraps), ref("", wraps)) })
	for _, a := range all {
		for _, b := range all {
			callUnspecified(a, b)
		}
	}
	for _, wraps := range []string{"N", "L", "LN", "3"} {
		long := ref("a", strings.Repeat(wraps, 1<<20))
		callUnspecified(long, long)
		callUnspecified(long, ref("a", wraps))
		callUnspecified(ref("a", wraps), long)
	}
}

// P5.3

func TestFitsIsAnOrder(t *testing.T) {
	all := allLeveled(3, "User")
	all = append(all, leveled{"Post", 0, 0}, leveled{"Post", 1, 3}, leveled{"Post", 2, 5})
	refs := make([]api.Ref, len(all))
	for i, x := range all {
		refs[i] = x.ref()
	}
	for _, a := range refs {
		if !typeref.Fits(a, a) {
			t.Error(a, "does not fit itself")
		}
		for _, b := range refs {
			weak, ok := typeref.Weaken(a, b)
			if ok && (!typeref.Right(weak) || !typeref.Fits(a, weak) || !typeref.Fits(b, weak)) {
				t.Error(a, "or", b, "does not fit", weak)
			}
			for _, c := range refs {
				if typeref.Fits(a, b) && typeref.Fits(b, c) && !typeref.Fits(a, c) {
					t.Error(a, "does not fit", c, "although it fits", b)
				}
				if typeref.Fits(a, c) && typeref.Fits(b, c) && (!ok || !typeref.Fits(weak, c)) {
					t.Error(weak, "does not fit", c, "although", a, "and", b, "do")
				}
			}
		}
	}
}
