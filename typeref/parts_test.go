package typeref_test

import (
	"regexp"
	"slices"
	"strings"
	"testing"

	"supergraph/api"
	"supergraph/typeref"
)

// A reference is written as its wrappers, N for WNonNull and L for WList, and other signs for
// numbers that are no wrappers.
var wrappers = map[rune]int{'N': api.WNonNull, 'L': api.WList, '0': 0, '3': 3, '-': -1, '+': 1<<32 + 1}

// ref has no spare capacity and no memory that another one has.
func ref(name, wraps string) api.Ref {
	t := api.Ref{Name: name}
	for _, w := range wraps {
		t.Wraps = append(t.Wraps, wrappers[w])
	}
	t.Wraps = slices.Clip(t.Wraps)
	return t
}

func equal(a, b api.Ref) bool { return a.Name == b.Name && slices.Equal(a.Wraps, b.Wraps) }

// eachWraps calls visit for all lists of at most most wrappers of alphabet.
func eachWraps(alphabet string, most int, visit func(wraps string)) {
	visit("")
	if most == 0 {
		return
	}
	for _, w := range alphabet {
		eachWraps(alphabet, most-1, func(rest string) { visit(string(w) + rest) })
	}
}

// eachRef calls visit for short references, right and wrong ones, and for some long ones.
func eachRef(visit func(name, wraps string)) {
	eachWraps("NL03-+", 4, func(wraps string) { visit("User", wraps) })
	for _, name := range []string{"", "a", "__typename", "true", "1a", "a b", "[User!]", "é", "\xff", strings.Repeat("x", 65)} {
		eachWraps("NL", 4, func(wraps string) { visit(name, wraps) })
	}
	for n := 5; n < 40; n++ {
		visit("User", strings.Repeat("L", n))
		visit("User", strings.Repeat("N", n))
		visit("User", strings.Repeat("NL", n))
		visit("User", strings.Repeat("LN", n))
		visit("User", strings.Repeat("L", n)+"N")
		visit("User", strings.Repeat("L", n)+"0")
	}
}

func checkRef(t *testing.T, call string, got, want api.Ref) {
	t.Helper()
	if !equal(got, want) {
		t.Errorf("%s is %v, not %v", call, got, want)
	}
}

func checkBool(t *testing.T, call string, got, want bool) {
	t.Helper()
	if got != want {
		t.Errorf("%s is %v", call, got)
	}
}

// P5.1

func TestMake(t *testing.T) {
	eachRef(func(name, wraps string) {
		of := " of " + name + " " + wraps
		x := ref(name, wraps)
		checkRef(t, "Named"+of, typeref.Named(name), ref(name, ""))
		checkRef(t, "ListOf"+of, typeref.ListOf(x), ref(name, "L"+wraps))
		checkRef(t, "NonNull"+of, typeref.NonNull(x), ref(name, "N"+strings.TrimPrefix(wraps, "N")))
		checkRef(t, "the argument"+of, x, ref(name, wraps))
	})
}

func TestExamine(t *testing.T) {
	list := regexp.MustCompile("^N?L(.*)$")
	eachRef(func(name, wraps string) {
		of := " of " + name + " " + wraps
		x := ref(name, wraps)
		checkBool(t, "IsNonNull"+of, typeref.IsNonNull(x), strings.HasPrefix(wraps, "N"))
		checkRef(t, "Nullable"+of, typeref.Nullable(x), ref(name, strings.TrimPrefix(wraps, "N")))
		checkBool(t, "IsList"+of, typeref.IsList(x), list.MatchString(wraps))
		inner, ok := typeref.Inner(x)
		checkBool(t, "Inner"+of, ok, list.MatchString(wraps))
		want := api.Ref{}
		if parts := list.FindStringSubmatch(wraps); parts != nil {
			want = ref(name, parts[1])
		}
		checkRef(t, "Inner"+of, inner, want)
		checkRef(t, "the argument"+of, x, ref(name, wraps))
	})
}

func TestRight(t *testing.T) {
	names := regexp.MustCompile("^[A-Za-z_][A-Za-z_0-9]{0,63}$")
	pattern := regexp.MustCompile("^N?(LN?)*$")
	count := 0
	eachRef(func(name, wraps string) {
		want := names.MatchString(name) && pattern.MatchString(wraps) && len(wraps) <= 24
		checkBool(t, "Right of "+name+" "+wraps, typeref.Right(ref(name, wraps)), want)
		if want {
			count++
		}
	})
	if count < 100 {
		t.Error(count)
	}
}

func TestRightLimits(t *testing.T) {
	for n := range 200 {
		checkBool(t, "Right of a long name", typeref.Right(ref(strings.Repeat("x", n), "LN")), n >= 1 && n <= 64)
		checkBool(t, "Right of lists", typeref.Right(ref("x", strings.Repeat("L", n))), n <= 24)
		checkBool(t, "Right of non-null lists", typeref.Right(ref("x", strings.Repeat("NL", n))), n <= 12)
		checkBool(t, "Right of NL with N", typeref.Right(ref("x", strings.Repeat("NL", n)+"N")), n <= 11)
	}
	// A wrong wrapper in every place of the longest reference.
	longest := strings.Repeat("L", 24)
	for i := range longest {
		for _, w := range "03-+" {
			checkBool(t, "Right", typeref.Right(ref("x", longest[:i]+string(w)+longest[i+1:])), false)
		}
		checkBool(t, "Right", typeref.Right(ref("x", longest[:i]+"N"+longest[i+1:])), true)
		if i > 0 {
			checkBool(t, "Right", typeref.Right(ref("x", longest[:i-1]+"NN"+longest[i+1:])), false)
		}
	}
	// nil and empty lists are equivalent.
	checkBool(t, "Right", typeref.Right(api.Ref{Name: "x", Wraps: []int{}}), true)
}

func TestPartsExamples(t *testing.T) {
	user := typeref.Named("User")
	checkRef(t, "[User]!", typeref.NonNull(typeref.ListOf(user)), ref("User", "NL"))
	checkRef(t, "User!", typeref.NonNull(typeref.NonNull(user)), ref("User", "N"))
	checkRef(t, "User", typeref.Nullable(typeref.NonNull(user)), ref("User", ""))
	inner, ok := typeref.Inner(ref("User", "NLN"))
	checkRef(t, "Inner", inner, ref("User", "N"))
	checkBool(t, "Inner", ok, true)
	checkBool(t, "Right", typeref.Right(ref("User", "NN")), false)
	checkBool(t, "IsList", typeref.IsList(ref("User", "NNL")), false)
}

// spare returns the reference in memory with room for more wrappers, all of which are 9, before and after its own.
func spare(name, wraps string) (api.Ref, []int) {
	memory := slices.Repeat([]int{9}, len(wraps)+8)
	copy(memory[4:], ref(name, wraps).Wraps)
	return api.Ref{Name: name, Wraps: memory[4 : 4+len(wraps)]}, memory
}

// No result shares memory with an argument, and no argument is modified.
func TestMemory(t *testing.T) {
	calls := map[string]func(x api.Ref) api.Ref{
		"NonNull":  typeref.NonNull,
		"ListOf":   typeref.ListOf,
		"Nullable": typeref.Nullable,
		"Inner": func(x api.Ref) api.Ref {
			inner, _ := typeref.Inner(x)
			return inner
		},
		"Weaken": func(x api.Ref) api.Ref {
			weak, _ := typeref.Weaken(x, x)
			return weak
		},
	}
	for name, call := range calls {
		eachWraps("NL", 4, func(wraps string) {
			x, memory := spare("User", wraps)
			before := slices.Clone(memory)
			got := call(x)
			want := slices.Clone(got.Wraps)
			if !slices.Equal(memory, before) {
				t.Errorf("%s of %s modifies its argument", name, wraps)
			}
			clear(memory)
			if !slices.Equal(got.Wraps, want) {
				t.Errorf("%s of %s shares memory with its argument", name, wraps)
			}
			copy(memory, before)
			clear(got.Wraps[:cap(got.Wraps)])
			if !slices.Equal(memory, before) {
				t.Errorf("the argument shares memory with %s of %s", name, wraps)
			}
		})
	}
}
