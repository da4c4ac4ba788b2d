package sdlprint_test

import (
	"math/rand"
	"reflect"
	"slices"
	"strconv"
	"strings"
	"testing"

	"supergraph/api"
	"supergraph/sdl"
	"supergraph/sdlprint"
)

// P7.4

// checkSort expects a document with all its parts, also those that layer 6 never returns.
func checkSort(t *testing.T, d, want api.Doc) {
	t.Helper()
	given := clone(d)
	got := sdlprint.Sort(d)
	if !same(got, want) {
		t.Errorf("Sort is %v, not %v", got, want)
	}
	if !same(d, given) {
		t.Errorf("Sort changed %v to %v", given, d)
	}
	if again := sdlprint.Sort(got); !same(again, want) {
		t.Errorf("Sort of %v is %v", got, again)
	}
}

func checkSortText(t *testing.T, s, want string) {
	t.Helper()
	d, _, code := sdl.Parse(s)
	e, _, wantCode := sdl.Parse(want)
	if code != api.OK || wantCode != api.OK {
		t.Errorf("%q or %q is not read", s, want)
	}
	checkSort(t, d, e)
}

func TestSortExamples(t *testing.T) {
	checkSort(t, api.Doc{}, api.Doc{})
	checkSort(t, api.Doc{Defs: []api.Def{}}, api.Doc{})
	checkSortText(t, "type B { y: Int x: Int } enum A { Z Y }", "enum A { Y Z } type B { x: Int y: Int }")
	checkSortText(t, "type A implements C & A & B { x: A }", "type A implements A & B & C { x: A }")
	checkSortText(t, "interface A { c(z: A y: B x: C): D b: A a(q: A p: B): B }", "interface A { a(p: B q: A): B b: A c(x: C y: B z: A): D }")
	checkSortText(t, "union U = C | A | B", "union U = A | B | C")
	checkSortText(t, "input I { c: A b: C = 1 a: B @d }", "input I { a: B @d b: C = 1 c: A }")
	checkSortText(t, "enum E { C @d(b: 1) A @c B }", "enum E { A @c B C @d(b: 1) }")
	checkSortText(t, "union C = B | A input B { b: A a: A } interface A { b: A a: A } enum D { B A }", "interface A { a: A b: A } input B { a: A b: A } union C = A | B enum D { A B }")
}

// Names are in the order of their bytes: of a letter, all uppercase ones and the underscore come before it.
func TestSortOrder(t *testing.T) {
	checkSortText(t, "type A { b: A a: A _: A B: A A: A a1: A a_: A aa: A aA: A Z: A z: A a10: A a2: A }", "type A { A: A B: A Z: A _: A a: A a1: A a10: A a2: A aA: A a_: A aa: A b: A z: A }")
	names := []string{"", "\x00", "\x00\x00", " ", "0", "10", "2", "A", "B", "Z", "_", "_A", "__", "a", "a\x00", "aA", "aa", "b", "z", "z\x7f", "\x80", "é", "ê", "\xff", "\xff\xff"}
	r := rand.New(rand.NewSource(7))
	for range 20 {
		var d, want api.Doc
		for i, k := range r.Perm(len(names)) {
			d.Defs = append(d.Defs, shuffled(names[k], names, r.Perm(len(names))))
			want.Defs = append(want.Defs, shuffled(names[i], names, inOrder(len(names))))
		}
		checkSort(t, d, want)
		if t.Failed() {
			return
		}
	}
}

func inOrder(count int) []int {
	l := make([]int, count)
	for i := range l {
		l[i] = i
	}
	return l
}

// shuffled returns a definition all of whose lists have these names in this order.
func shuffled(name string, names []string, order []int) api.Def {
	d := api.Def{Kind: len(name), Name: name}
	var args []api.Input
	for _, k := range order {
		d.Implements = append(d.Implements, names[k])
		d.Members = append(d.Members, api.Member{Name: names[k]})
		args = append(args, api.Input{Name: names[k], Type: ref("T" + names[k])})
	}
	d.Inputs = args
	for _, k := range order {
		d.Fields = append(d.Fields, api.Field{Name: names[k], Args: args, Type: ref("F" + names[k])})
	}
	return d
}

// Parts with equal names stay in their order: each has its number in another place.
func TestSortKeepsTheOrderOfEqualNames(t *testing.T) {
	r := rand.New(rand.NewSource(8))
	for _, count := range []int{2, 3, 12, 13, 16, 50, 64, 100, 500} {
		for names := 1; names <= 4; names++ {
			d := numbered(r, count, names)
			d.Fields = nil
			for i, a := range numbered(r, count, names).Inputs {
				f := api.Field{Name: a.Name, Type: ref(strconv.Itoa(i))}
				if i < 3 {
					f.Args = numbered(r, count, names).Inputs
				}
				d.Fields = append(d.Fields, f)
			}
			var all api.Doc
			for i := range count {
				x := api.Def{Kind: i, Name: string(rune('a' + r.Intn(names)))}
				if i == 0 {
					x = d
				}
				all.Defs = append(all.Defs, x)
			}
			checkSort(t, all, expectedSort(all))
		}
	}
}

func numbered(r *rand.Rand, count, names int) api.Def {
	d := api.Def{Name: "b"}
	for i := range count {
		name := string(rune('a' + r.Intn(names)))
		d.Members = append(d.Members, api.Member{Name: name, Dirs: []api.Dir{{Name: strconv.Itoa(i)}}})
		d.Inputs = append(d.Inputs, api.Input{Name: name, Type: ref("A"), Has: true, Default: number(i)})
	}
	return d
}

// expectedSort takes the first one of the least names, again and again.
func expectedSort(d api.Doc) api.Doc {
	d = clone(d)
	d.Defs = taken(d.Defs, func(x api.Def) string { return x.Name })
	inputs := func(l []api.Input) []api.Input { return taken(l, func(x api.Input) string { return x.Name }) }
	for i := range d.Defs {
		x := &d.Defs[i]
		x.Implements = taken(x.Implements, func(s string) string { return s })
		x.Fields = taken(x.Fields, func(x api.Field) string { return x.Name })
		x.Members = taken(x.Members, func(x api.Member) string { return x.Name })
		x.Inputs = inputs(x.Inputs)
		for k := range x.Fields {
			x.Fields[k].Args = inputs(x.Fields[k].Args)
		}
	}
	return d
}

func taken[T any](l []T, name func(x T) string) []T {
	l = slices.Clone(l)
	var sorted []T
	for len(l) > 0 {
		least := 0
		for i, x := range l {
			if name(x) < name(l[least]) {
				least = i
			}
		}
		sorted = append(sorted, l[least])
		l = slices.Delete(l, least, least+1)
	}
	return sorted
}

func TestSortKeepsDirectivesAndValues(t *testing.T) {
	dirs := ` @z(b: [3, 1, 2], a: {b: 1, a: {d: C, c: [{y: 0, x: 0}, B, A]}}) @a @m(y: "b", x: "a") @a(c: 1)`
	for _, s := range []string{
		"type B@ { x: B }", "interface B@ { x: B }", "union B@ = A", "enum B@ { A }", "input B@ { a: B }",
		"type B { x: B@ }", "interface B { x(a: [B!]! = {b: [2, 1], a: 1}@): [[B]!]!@ }", "enum B { A@ }", "input B { a: B = [b, a]@ }",
	} {
		s = strings.ReplaceAll(s, "@", dirs)
		checkSortText(t, s, s)
		checkSortText(t, s+" type A { x: B }", "type A { x: B } "+s)
	}
}

func TestSortRandomDocuments(t *testing.T) {
	changed := 0
	eachRight(func(_ source, d api.Doc) {
		if t.Failed() {
			return
		}
		checkSort(t, d, expectedSort(d))
		if !sdl.Right(sdlprint.Sort(d)) {
			t.Errorf("Sort of %q is not right", brief(sdlprint.Print(d)))
		}
		if !same(d, sdlprint.Sort(d)) {
			changed++
		}
		checkTrip(t, sdlprint.Sort(d))
	})
	if changed < 1000 {
		t.Error("too few documents:", changed)
	}
	right := 0
	eachWild(func(_ source, d api.Doc) {
		if t.Failed() || len(sdlprint.Print(d)) > 50000 {
			return
		}
		checkSort(t, d, expectedSort(d))
		if sdl.Right(d) {
			right++
		}
	})
	if right > 100 {
		t.Error("too few wrong documents:", right)
	}
}

// A result has memory of its own: whoever changes it changes neither the document nor other results.
func TestSortSharesNoMemory(t *testing.T) {
	check := func(_ source, d api.Doc) {
		if t.Failed() || len(sdlprint.Print(d)) > 10000 {
			return
		}
		given, want := clone(d), clone(sdlprint.Sort(d))
		first, second := sdlprint.Sort(d), sdlprint.Sort(d)
		scribble(&first)
		if !same(d, given) || !same(second, want) {
			t.Errorf("Sort of %v shares memory", given)
		}
		scribble(&d)
		if !same(second, want) {
			t.Errorf("Sort of %v shares memory with it", given)
		}
	}
	eachRight(check)
	eachWild(check)
}

// scribble changes all memory of a document, also what follows the elements of its lists.
func scribble(d *api.Doc) {
	eachPart(reflect.ValueOf(d).Elem(), func(part reflect.Value) {
		if part.Kind() != reflect.Slice {
			return
		}
		for i := range part.Len() {
			scribbleOn(part.Index(i))
		}
		part.Set(part.Slice(0, part.Cap()))
		for i := range part.Len() {
			scribbleOn(part.Index(i))
		}
	})
}

func scribbleOn(element reflect.Value) {
	eachPart(element, func(part reflect.Value) {
		switch part.Kind() {
		case reflect.String:
			part.SetString("scribble")
		case reflect.Int:
			part.SetInt(77)
		case reflect.Bool:
			part.SetBool(!part.Bool())
		}
	})
}
