package queryprint_test

import (
	"reflect"
	"testing"

	"supergraph/api"
	"supergraph/query"
	"supergraph/queryprint"
)

// P9.3

func checkSame(t *testing.T, want bool, a, b api.Query) {
	t.Helper()
	givenA, givenB := whole(a), whole(b)
	if queryprint.Same(a, b) != want || queryprint.Same(b, a) != want {
		t.Errorf("Same of %s and %s is not %v", brief(givenA), brief(givenB), want)
	}
	if whole(a) != givenA || whole(b) != givenB {
		t.Errorf("Same changed %s or %s", brief(givenA), brief(givenB))
	}
}

func TestSameExamples(t *testing.T) {
	checkSame(t, true, api.Query{}, api.Query{})
	checkSame(t, true, api.Query{}, api.Query{Ops: []api.Op{}, Frags: []api.Frag{}})
	checkSame(t, false, api.Query{}, api.Query{Ops: []api.Op{{}}})
	checkSame(t, false, api.Query{}, api.Query{Frags: []api.Frag{{}}})
	checkSame(t, false, api.Query{Ops: []api.Op{{}}}, api.Query{Frags: []api.Frag{{}}})
	checkSame(t, true, read(t, "{ a b }"), read(t, "query,{ a,b }"))
	checkSame(t, false, read(t, "{ a b }"), read(t, "{ b a }"))
	checkSame(t, true, read(t, "{ a } fragment f on T { b } mutation { c }"), read(t, "fragment f on T { b } { a } mutation { c }"))
	checkSame(t, false, read(t, "{ a } fragment f on T { b } mutation { c }"), read(t, "mutation { c } fragment f on T { b } { a }"))
	checkSame(t, false, read(t, "fragment f on T { b } fragment g on T { b }"), read(t, "fragment g on T { b } fragment f on T { b }"))
	checkSame(t, true, document(nested(1<<16)...), document(nested(1<<16)...))
	checkSame(t, false, document(nested(1<<16)...), document(nested(1<<16-1)...))
}

// full returns a document that has parts in each place, whatever the kinds of its selections are.
func full() api.Query {
	args := func() []api.Arg {
		return []api.Arg{arg("x", object("k l", listOf(number(1), str("s"), variable("v")), enum("E"))), arg("y", truth(1)), {Name: "z"}}
	}
	dirs := func() []api.Dir { return []api.Dir{directive("d"), directive("e", args()...)} }
	sel := func(kind int, sels ...api.Sel) api.Sel {
		return api.Sel{Kind: kind, Alias: "a", Name: "b", On: "T", Args: args(), Dirs: dirs(), Sels: sels}
	}
	vars := func() []api.Var {
		return []api.Var{
			{Name: "v", Type: api.Ref{Name: "A", Wraps: []int{api.WNonNull, api.WList}}, Has: true, Default: listOf(number(1), object("k", enum("A")))},
			{Name: "w", Type: api.Ref{Name: "A"}, Default: number(2)}, {},
		}
	}
	sels := func() []api.Sel {
		return []api.Sel{sel(api.SField, sel(api.SField), sel(api.SInline, field("c"))), sel(api.SSpread), sel(api.SInline), {}}
	}
	return api.Query{
		Ops:   []api.Op{{Kind: api.OQuery, Name: "q", Vars: vars(), Sels: sels()}, {Kind: api.OMutation, Vars: vars()}, {}},
		Frags: []api.Frag{{Name: "f", On: "T", Sels: sels()}, {Name: "g", On: "T", Sels: []api.Sel{spread("f")}}, {}},
	}
}

// eachChange calls visit for every document that differs from q in one part. After each call, q is
// what it was, and so it is afterwards.
func eachChange(q *api.Query, visit func()) {
	change := func(part reflect.Value, to any) {
		old := reflect.New(part.Type()).Elem()
		old.Set(part)
		part.Set(reflect.ValueOf(to).Convert(part.Type()))
		visit()
		part.Set(old)
	}
	eachPart(reflect.ValueOf(q).Elem(), func(part reflect.Value) {
		switch part.Kind() {
		case reflect.Int:
			change(part, part.Int()+1)
			change(part, part.Int()-1)
			change(part, part.Int()+1<<32)
		case reflect.Bool:
			change(part, !part.Bool())
		case reflect.String:
			change(part, part.String()+"x")
			change(part, part.String()+"\x00")
			change(part, "other")
			change(part, "")
		case reflect.Slice:
			for _, l := range changedLists(part) {
				change(part, l.Interface())
			}
		}
	})
}

// changedLists returns lists in which one element of l is added, repeated, missing, or moved.
func changedLists(l reflect.Value) []reflect.Value {
	n := l.Len()
	var lists []reflect.Value
	add := func(order ...int) {
		changed := reflect.MakeSlice(l.Type(), len(order), len(order))
		for i, k := range order {
			if k >= 0 {
				changed.Index(i).Set(l.Index(k))
			}
		}
		lists = append(lists, changed)
	}
	// An index of -1 stands for a zero value.
	indices := func(from, to int) []int {
		var order []int
		for i := from; i < to; i++ {
			order = append(order, i)
		}
		return order
	}
	for i := range n + 1 {
		add(append(append(indices(0, i), -1), indices(i, n)...)...)
	}
	for i := range n {
		add(append(indices(0, i), indices(i+1, n)...)...)
		add(append(append(indices(0, i), i), indices(i, n)...)...)
		if i > 0 {
			add(append(append(indices(0, i-1), i, i-1), indices(i+1, n)...)...)
		}
	}
	return lists
}

func TestSameFindsEveryChange(t *testing.T) {
	q, given := full(), full()
	text := content(given)
	changes, equal := 0, 0
	eachChange(&q, func() {
		if t.Failed() {
			return
		}
		want := content(q) == text
		changes++
		if want {
			equal++
		}
		checkSame(t, want, given, q)
	})
	if content(q) != text || changes < 2000 || equal > changes/10 {
		t.Error("too few changes:", changes, equal)
	}
}

// nil and empty lists are equal, in every place.
func TestSameOfEmptyLists(t *testing.T) {
	for _, fresh := range []func() api.Query{full, func() api.Query { return api.Query{} }, func() api.Query {
		return api.Query{Ops: []api.Op{{Vars: []api.Var{{}}, Sels: []api.Sel{{Args: []api.Arg{{}}, Dirs: []api.Dir{{}}}}}}, Frags: []api.Frag{{}}}
	}} {
		q, given := fresh(), fresh()
		count := 0
		eachPart(reflect.ValueOf(&q).Elem(), func(part reflect.Value) {
			if part.Kind() == reflect.Slice && part.Len() == 0 {
				count++
				part.Set(reflect.MakeSlice(part.Type(), 0, 3))
				checkSame(t, true, given, q)
			}
		})
		checkSame(t, true, q, q)
		if count == 0 {
			t.Error("no empty lists in", whole(given))
		}
	}
}

// Values are compared as by layer 2: keys without items play no part, and a missing key is an empty one.
func TestSameOfValues(t *testing.T) {
	places := []func(v api.Value) api.Query{
		func(v api.Value) api.Query { return api.Query{Ops: []api.Op{{Vars: []api.Var{{Default: v}}}}} },
		func(v api.Value) api.Query {
			return api.Query{Ops: []api.Op{{Vars: []api.Var{{Has: true, Default: v}}}}}
		},
		func(v api.Value) api.Query { return document(api.Sel{Args: []api.Arg{{Value: v}}}) },
		func(v api.Value) api.Query {
			return api.Query{Frags: []api.Frag{{Sels: []api.Sel{{Dirs: []api.Dir{directive("", arg("", v))}}}}}}
		},
	}
	for _, place := range places {
		check := func(want bool, a, b api.Value) {
			t.Helper()
			checkSame(t, want, place(a), place(b))
		}
		check(true, object("a b"), object(""))
		check(true, object("a b", number(1)), object("a", number(1)))
		check(true, api.Value{Keys: []string{"a"}}, api.Value{})
		check(false, object("a", api.Value{}), object("", api.Value{}))
		check(false, object("a b", number(1), number(2)), object("b a", number(2), number(1)))
		check(false, object("a", number(1)), listOf(number(1)))
		check(false, str("A"), enum("A"))
		check(false, variable("A"), enum("A"))
		check(false, truth(0), number(0))
		check(false, truth(2), truth(1))
		check(false, listOf(), listOf(api.Value{}))
		check(true, api.Value{Kind: 77, Int: 1, Text: "a"}, api.Value{Kind: 77, Int: 1, Text: "a"})
	}
}

// Of random documents, right ones or not, each with one change.
func TestSameOfRandomDocuments(t *testing.T) {
	equal, different := 0, 0
	check := func(r source, q api.Query) {
		if r.Intn(3) > 0 || len(queryprint.Print(q)) > 1000 || t.Failed() {
			return
		}
		given := clone(q)
		checkSame(t, true, given, q)
		text := content(given)
		changes := 0
		eachChange(&q, func() { changes++ })
		at := map[int]bool{}
		for range 4 {
			at[r.Intn(changes)] = true
		}
		eachChange(&q, func() {
			changes--
			if !at[changes] {
				return
			}
			want := content(q) == text
			checkSame(t, want, given, q)
			if want {
				equal++
			} else {
				different++
			}
		})
	}
	eachRight(check)
	eachWild(check)
	if equal < 10 || different < 2000 {
		t.Error("too few documents:", equal, different)
	}
}

// Right documents are the same exactly if they have the same text.
func TestSameText(t *testing.T) {
	var documents []api.Query
	for _, s := range []string{
		"query q($a: [A!] = [1], $b: B = null) { a(x: $v, y: \"s\") @d ...f @e(z: true) }", "mutation { a: b { c ... on T @d { e } } } subscription s { a }",
		"fragment f on T { ... { a } ...g } { a }", "{ a(x: {k: [1], l: RED}) b: b } { a }", "query($a: A) { a ...f }",
	} {
		q := read(t, s)
		eachChange(&q, func() {
			if query.Right(q) {
				documents = append(documents, clone(q))
			}
		})
		withEmptyLists(&q)
		documents = append(documents, read(t, s), q)
	}
	if len(documents) < 200 {
		t.Error("too few documents:", len(documents))
	}
	equal := 0
	for i, a := range documents {
		for k, b := range documents {
			want := queryprint.Print(a) == queryprint.Print(b)
			if want && i != k {
				equal++
			}
			if queryprint.Same(a, b) != want {
				t.Fatalf("Same of %q and %q is not %v", queryprint.Print(a), queryprint.Print(b), want)
			}
		}
	}
	if equal < 10 {
		t.Error("too few documents with the same text:", equal)
	}
}
