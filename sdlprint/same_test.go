package sdlprint_test

import (
	"reflect"
	"testing"

	"supergraph/api"
	"supergraph/sdl"
	"supergraph/sdlprint"
)

// P7.5

func checkSame(t *testing.T, want bool, a, b api.Doc) {
	t.Helper()
	givenA, givenB := clone(a), clone(b)
	if sdlprint.Same(a, b) != want || sdlprint.Same(b, a) != want {
		t.Errorf("Same of %v and %v is not %v", a, b, want)
	}
	if !reflect.DeepEqual(a, givenA) || !reflect.DeepEqual(b, givenB) {
		t.Errorf("Same changed %v or %v", a, b)
	}
}

func TestSameExamples(t *testing.T) {
	checkSame(t, true, api.Doc{}, api.Doc{})
	checkSame(t, true, api.Doc{}, api.Doc{Defs: []api.Def{}})
	checkSame(t, false, api.Doc{}, doc(api.Def{}))
	checkSame(t, true, doc(api.Def{}), doc(api.Def{}))
	d, _, _ := sdl.Parse("type B { y: Int x: Int } enum A { Z Y }")
	checkSame(t, true, d, d)
	checkSame(t, false, d, sdlprint.Sort(d))
	checkSame(t, true, sdlprint.Sort(d), sdlprint.Sort(sdlprint.Sort(d)))
}

// full returns a document that has parts in each place, whatever the kinds of its definitions are.
func full() api.Doc {
	dirs := []api.Dir{{Name: "d"}, {Name: "e", Args: []api.Arg{{Name: "a", Value: object("k l", listOf(number(1), str("s")), enum("E"))}, {Name: "b"}}}}
	inputs := []api.Input{
		{Name: "a", Type: ref("T", api.WNonNull, api.WList), Has: true, Default: listOf(truth(1), variable("v")), Dirs: dirs},
		{Name: "b", Type: ref("T"), Default: object("k", number(2))},
		{Name: "c", Type: ref("T"), Has: true},
	}
	d := api.Def{
		Kind: api.DObject, Name: "A", Implements: []string{"I", "J"}, Dirs: dirs,
		Fields:  []api.Field{{Name: "x", Args: inputs, Type: ref("T", api.WList, api.WNonNull), Dirs: dirs}, {Name: "y"}},
		Members: []api.Member{{Name: "M", Dirs: dirs}, {Name: "N"}}, Inputs: inputs,
	}
	e := d
	e.Kind, e.Name = api.DEnum, "B"
	return clone(doc(d, e, api.Def{}))
}

// eachChange calls visit for every document that differs from d in one part. What it differs from is
// the same again before the next call.
func eachChange(d api.Doc, visit func(d api.Doc)) {
	d = clone(d)
	change := func(part reflect.Value, to any) {
		old := reflect.New(part.Type()).Elem()
		old.Set(part)
		part.Set(reflect.ValueOf(to).Convert(part.Type()))
		visit(d)
		part.Set(old)
	}
	eachPart(reflect.ValueOf(&d).Elem(), func(part reflect.Value) {
		switch part.Kind() {
		case reflect.Int:
			change(part, part.Int()+1)
			change(part, part.Int()-1)
			change(part, part.Int()+1<<32)
		case reflect.Bool:
			change(part, !part.Bool())
		case reflect.String:
			change(part, part.String()+"x")
			change(part, part.String()+"\x00")
			change(part, "other")
		case reflect.Slice:
			eachList(part, func(l reflect.Value) { change(part, l.Interface()) })
		}
	})
}

// eachList calls visit for lists that differ from l in one element.
func eachList(l reflect.Value, visit func(l reflect.Value)) {
	n := l.Len()
	join := func(parts ...reflect.Value) {
		joined := reflect.MakeSlice(l.Type(), 0, n+1)
		for _, x := range parts {
			joined = reflect.AppendSlice(joined, x)
		}
		visit(joined)
	}
	one := reflect.MakeSlice(l.Type(), 1, 1)
	for i := range n + 1 {
		join(l.Slice(0, i), one, l.Slice(i, n))
	}
	for i := range n {
		join(l.Slice(0, i), l.Slice(i+1, n))
		join(l.Slice(0, i), l.Slice(i, i+1), l.Slice(i, n))
		if i > 0 {
			join(l.Slice(0, i-1), l.Slice(i, i+1), l.Slice(i-1, i), l.Slice(i+1, n))
		}
	}
}

func TestSameFindsEveryChange(t *testing.T) {
	d := full()
	changes, equal := 0, 0
	eachChange(d, func(changed api.Doc) {
		want := same(d, changed)
		changes++
		if want {
			equal++
		}
		checkSame(t, want, d, changed)
	})
	if changes < 1000 || equal > changes/10 {
		t.Error("too few changes:", changes, equal)
	}
}

// nil and empty lists are equal, in every place.
func TestSameOfEmptyLists(t *testing.T) {
	single := api.Def{Dirs: []api.Dir{{}}, Fields: []api.Field{{Args: []api.Input{{}}}}, Members: []api.Member{{}}, Inputs: []api.Input{{}}}
	for _, d := range []api.Doc{{}, doc(api.Def{}), doc(single), full()} {
		e := clone(d)
		count := 0
		eachPart(reflect.ValueOf(&e).Elem(), func(part reflect.Value) {
			if part.Kind() == reflect.Slice && part.Len() == 0 {
				count++
				part.Set(reflect.MakeSlice(part.Type(), 0, 3))
				checkSame(t, true, d, e)
				checkSame(t, true, e, e)
			}
		})
		if count == 0 {
			t.Errorf("no empty lists in %v", d)
		}
	}
}

// Values are compared as by layer 2: keys without items play no part, and a missing key is an empty one.
func TestSameOfValues(t *testing.T) {
	places := []func(v api.Value) api.Doc{
		func(v api.Value) api.Doc { return doc(api.Def{Inputs: []api.Input{{Default: v}}}) },
		func(v api.Value) api.Doc { return doc(api.Def{Inputs: []api.Input{{Has: true, Default: v}}}) },
		func(v api.Value) api.Doc { return doc(api.Def{Fields: []api.Field{{Args: []api.Input{{Default: v}}}}}) },
		func(v api.Value) api.Doc { return doc(api.Def{Dirs: []api.Dir{{Args: []api.Arg{{Value: v}}}}}) },
	}
	for _, place := range places {
		check := func(want bool, a, b api.Value) {
			t.Helper()
			checkSame(t, want, place(a), place(b))
		}
		check(true, object("a b"), object(""))
		check(true, object("a b", number(1)), object("a", number(1)))
		check(true, api.Value{Keys: []string{"a"}}, api.Value{})
		check(true, api.Value{Kind: api.VObject, Keys: []string{""}, Items: []api.Value{{}}}, object("", api.Value{}))
		check(false, object("a", api.Value{}), object("", api.Value{}))
		check(false, object("a b", number(1), number(2)), object("b a", number(2), number(1)))
		check(false, object("a", number(1)), listOf(number(1)))
		check(false, str("A"), enum("A"))
		check(false, truth(0), number(0))
		check(false, truth(2), truth(1))
		check(false, api.Value{}, api.Value{Text: "a"})
		check(false, listOf(), listOf(api.Value{}))
		check(true, api.Value{Kind: 77, Int: 1, Text: "a"}, api.Value{Kind: 77, Int: 1, Text: "a"})
	}
}

// Of random documents, right ones or not, each with one change.
func TestSameOfRandomDocuments(t *testing.T) {
	equal, different := 0, 0
	check := func(r source, d api.Doc) {
		checkSame(t, true, d, clone(d))
		changes := 0
		eachChange(d, func(api.Doc) { changes++ })
		at := map[int]bool{}
		for range 4 {
			at[r.Intn(changes)] = true
		}
		eachChange(d, func(changed api.Doc) {
			changes--
			if !at[changes] || t.Failed() {
				return
			}
			if want := same(d, changed); want {
				equal++
				checkSame(t, true, d, changed)
			} else {
				different++
				checkSame(t, false, d, changed)
			}
		})
	}
	small := func(r source, d api.Doc) {
		if r.Intn(3) == 0 && len(sdlprint.Print(d)) < 1000 {
			check(r, d)
		}
	}
	eachRight(small)
	eachWild(small)
	if equal < 10 || different < 500 {
		t.Error("too few documents:", equal, different)
	}
}

// Right documents are the same exactly if they have the same text.
func TestSameText(t *testing.T) {
	documents := []api.Doc{}
	add := func(d api.Doc) {
		if sdl.Right(d) {
			documents = append(documents, clone(d))
		}
	}
	for _, s := range []string{
		"type A implements I & J @d @e(a: 1, b: [A]) { x(a: Int = null, b: [Int!]): A! @d y: B }", "interface A { x(a: A = {b: 1, c: \"\"} @d): A }",
		"union A @d = B | C", "enum A { B @d C }", "input A @d(a: true) { a: B = b @d b: C } enum A { B }",
	} {
		d, _, code := sdl.Parse(s)
		if code != api.OK {
			t.Errorf("%q is not read", s)
		}
		add(d)
		eachChange(d, add)
		add(withEmptyLists(d))
	}
	if len(documents) < 150 {
		t.Error("too few documents:", len(documents))
	}
	equal := 0
	for i, a := range documents {
		for k, b := range documents {
			want := sdlprint.Print(a) == sdlprint.Print(b)
			if want && i != k {
				equal++
			}
			if sdlprint.Same(a, b) != want {
				t.Fatalf("Same of %q and %q is not %v", sdlprint.Print(a), sdlprint.Print(b), want)
			}
		}
	}
	if equal < 5 {
		t.Error("too few documents with the same text:", equal)
	}
}

func withEmptyLists(d api.Doc) api.Doc {
	d = clone(d)
	eachPart(reflect.ValueOf(&d).Elem(), func(part reflect.Value) {
		if part.Kind() == reflect.Slice && part.Len() == 0 {
			part.Set(reflect.MakeSlice(part.Type(), 0, 0))
		}
	})
	return d
}
