package queryprint_test

import (
	"math"
	"math/rand"
	"reflect"
	"slices"
	"strconv"
	"strings"
	"testing"

	"supergraph/api"
	"supergraph/query"
	"supergraph/queryprint"
	"supergraph/sdlprint"
)

// P9.4

// checkSignature expects a signature with all its parts, which is its own one.
func checkSignature(t *testing.T, q api.Query, op int, want api.Query) {
	t.Helper()
	given := whole(q)
	got := queryprint.Signature(q, op)
	if whole(got) != whole(want) {
		t.Errorf("the signature %d of %q is %q, not %q", op, brief(queryprint.Print(q)), brief(queryprint.Print(got)), brief(queryprint.Print(want)))
	}
	if whole(q) != given {
		t.Errorf("Signature changed %s to %s", brief(given), brief(whole(q)))
	}
	if again := queryprint.Signature(got, 0); whole(again) != whole(got) {
		t.Errorf("the signature of %q is %q", brief(queryprint.Print(got)), brief(queryprint.Print(again)))
	}
	if query.Right(q) && len(want.Ops) > 0 && !query.Right(got) {
		t.Errorf("the signature %q is not right", brief(queryprint.Print(got)))
	}
}

// checkSignatureText expects the signature of the operation with the index op of the document s.
func checkSignatureText(t *testing.T, s string, op int, want string) {
	t.Helper()
	checkSignature(t, read(t, s), op, read(t, want))
}

func TestSignatureExamples(t *testing.T) {
	checkSignatureText(t, "{ b(n: 5) { y x } a: z }", 0, "{ b(n: 0) { x y } z }")
	checkSignatureText(t, "{ a } fragment f on T { b }", 0, "{ a }")
	checkSignatureText(t, "query q { a }", 0, "query q { a }")
	checkSignatureText(t, "mutation q { z: a }", 0, "mutation q { a }")
	checkSignatureText(t, "subscription ($b: [A!]! = [1], $a: B) { a }", 0, "subscription ($a: B, $b: [A!]! = []) { a }")
}

func TestSignatureOfEachOperation(t *testing.T) {
	q := read(t, "{ b a } mutation m($v: A = 1) { a: c } fragment f on T { d } subscription { ...f } query b { b } query b { a }")
	for op, want := range []string{"{ a b }", "mutation m($v: A = 0) { c }", "subscription { ...f } fragment f on T { d }", "query b { b }", "query b { a }"} {
		checkSignature(t, q, op, read(t, want))
	}
	for _, op := range []int{-1, 5, 6, 7, math.MinInt, math.MaxInt, 1 << 32} {
		checkSignature(t, q, op, api.Query{})
	}
	for _, op := range []int{-1, 0, 1} {
		checkSignature(t, api.Query{}, op, api.Query{})
		checkSignature(t, read(t, "fragment f on T { a }"), op, api.Query{})
	}
}

func TestSignatureHasTheFragmentsThatAreUsed(t *testing.T) {
	check := func(operation, fragments, used string) {
		t.Helper()
		if t.Failed() {
			return
		}
		// Other operations and fragments, which use all fragments, play no part.
		others := " { " + strings.Repeat("...f ...g ...h ...i ", 3) + "} fragment unused on T { ...f ...g ...h ...i }"
		checkSignatureText(t, operation+" "+fragments, 0, operation+" "+used)
		checkSignatureText(t, operation+others+fragments, 0, operation+" "+used)
		checkSignatureText(t, fragments+others+operation, 1, operation+" "+used)
	}
	const f, g, h = "fragment f on T { a } ", "fragment g on T { a } ", "fragment h on T { a } "
	check("{ a }", f+g, "")
	check("{ ...f }", f+g, f)
	check("{ ...g }", f+g, g)
	check("{ ...f ...g }", g+f, f+g)
	check("mutation { a { b(x: $v) @d { c ...g } } }", f+g+h, g)
	check("query q($v: A) { ... on T @d { a { ...h } } ... { ...f } }", f+g+h, f+h)
	check("{ ...i }", f+g, "")
	check("{ ...f ...i }", f+g, f)
	check("{ f g { h } }", f+g+h, "")
	check("{ ... on f { g(h: i) } }", f+g+h, "")
	check("{ ...f }", "fragment f on T { ...g } "+h+g, "fragment f on T { ...g } "+g)
	check("{ ...f }", g+h+"fragment f on T { ... { a { ... on T { ...h } } } } ", "fragment f on T { ... { a { ... on T { ...h } } } } "+h)
	check("{ ...h }", "fragment f on T { a } fragment g on T { ...f } fragment h on T { ...g } fragment i on T { ...h } ", "fragment f on T { a } fragment g on T { ...f } fragment h on T { ...g } ")
	// Cycles.
	check("{ ...f }", "fragment f on T { ...f } "+g, "fragment f on T { ...f } ")
	check("{ ...g }", "fragment f on T { ...g } fragment g on T { ...h } fragment h on T { ...f } fragment i on T { ...f } ", "fragment f on T { ...g } fragment g on T { ...h } fragment h on T { ...f } ")
	// Of the fragments with a name, the first one.
	check("{ ...f ...f }", "fragment f on T { b } fragment f on U { a } fragment f on T { ...g } "+g, "fragment f on T { b } ")
	check("{ ...f }", "fragment f on T { ...g } fragment g on T { a } fragment g on T { ...h } fragment f on T { ...h } "+h, "fragment f on T { ...g } fragment g on T { a } ")
	// The order of bytes.
	names := []string{"A", "B", "Z", "_", "__", "a", "a1", "a10", "a2", "aA", "a_", "aa", "b", "query"}
	sorted, reversed := "", ""
	for _, name := range names {
		sorted += "fragment " + name + " on T { a } "
		reversed = "fragment " + name + " on T { a } " + reversed
	}
	check("{ ..."+strings.Join(names, " ...")+" }", reversed, sorted)
}

// Every kind of a value, in every place.
func TestSignatureOfValues(t *testing.T) {
	places := []func(v api.Value) api.Query{
		func(v api.Value) api.Query {
			return document(api.Sel{Kind: api.SField, Name: "a", Args: []api.Arg{arg("x", v)}})
		},
		func(v api.Value) api.Query {
			return document(api.Sel{Kind: api.SField, Name: "a", Dirs: []api.Dir{directive("d", arg("x", v))}})
		},
		func(v api.Value) api.Query {
			return document(field("a", api.Sel{Kind: api.SSpread, Name: "f", Dirs: []api.Dir{directive("d", arg("x", v))}}))
		},
		func(v api.Value) api.Query {
			return document(api.Sel{Kind: api.SInline, Dirs: []api.Dir{directive("d", arg("x", v))}, Sels: []api.Sel{field("a")}})
		},
		func(v api.Value) api.Query {
			q := document(spread("f"))
			q.Frags = []api.Frag{{Name: "f", On: "T", Sels: []api.Sel{{Kind: api.SField, Name: "a", Args: []api.Arg{arg("x", v)}, Dirs: []api.Dir{directive("d", arg("x", v))}}}}}
			return q
		},
		func(v api.Value) api.Query {
			q := document(field("a"))
			q.Ops[0].Vars = []api.Var{{Name: "v", Type: api.Ref{Name: "A", Wraps: []int{api.WList, api.WNonNull}}, Has: true, Default: v}}
			return q
		},
	}
	for _, place := range places {
		check := func(want api.Value, l ...api.Value) {
			t.Helper()
			for _, v := range append(l, want) {
				checkSignature(t, place(v), 0, place(want))
			}
		}
		check(number(0), number(1), number(-1), number(math.MaxInt), number(math.MinInt))
		check(str(""), str("a"), str("RED"), str("\x00"), str(strings.Repeat("x", 1000)))
		check(listOf(), listOf(number(0)), listOf(listOf()), listOf(api.Value{}, enum("A"), object("k", str("s"))))
		check(object(""), object("a", number(0)), object("b a", object(""), listOf(truth(1))))
		for _, v := range []api.Value{{}, truth(0), truth(1), enum("RED"), enum("a"), variable("v"), variable("__w")} {
			check(v)
		}
	}
}

func TestSignatureSortsVariablesAndArguments(t *testing.T) {
	const args, sortedArgs = "(b: 1, a: $v, _: [$w], B: {k: 1}, A: RED, a1: true, aA: null, a_: \"s\", aa: 2, a10: 3, a2: 4, z: 5)",
		"(A: RED, B: {}, _: [], a: $v, a1: true, a10: 0, a2: 0, aA: null, a_: \"\", aa: 0, b: 0, z: 0)"
	checkSignatureText(t, "{ a"+args+" { b @d"+args+" ...f @d"+args+" ... on T @d"+args+" { c } } } fragment f on T { a"+args+" }", 0,
		"{ a"+sortedArgs+" { b @d"+sortedArgs+" ...f @d"+sortedArgs+" ... on T @d"+sortedArgs+" { c } } } fragment f on T { a"+sortedArgs+" }")
	checkSignatureText(t, "query q($b: A, $_: B = null, $a: C = 1, $B: D!, $A: E = RED, $a1: F = true, $aa: [G] = [1]) { a }", 0,
		"query q($A: E = RED, $B: D!, $_: B = null, $a: C = 0, $a1: F = true, $aa: [G] = [], $b: A) { a }")
	// Those with equal names stay in their order.
	checkSignatureText(t, "query($b: B, $a: B, $b: A, $a: A = \"x\", $a: A = 1) { a(y: 1, x: RED, x: \"s\", y: $v, x: BLUE) @d(b: \"s\", b: A, a: 1, b: 2) }", 0,
		"query($a: B, $a: A = \"\", $a: A = 0, $b: B, $b: A) { a(x: RED, x: \"\", x: BLUE, y: 0, y: $v) @d(a: 0, b: \"\", b: A, b: 0) }")
}

func TestSignatureSortsDirectives(t *testing.T) {
	const dirs = "@b @a1 @a(y: 1) @a @B @_ @a(x: RED, a: {k: 1}) @a(x: BLUE, a: {}) @a(x: $w) @a(x: 1) @a(x: \"s\") @aa @a"
	const sortedDirs = "@B @_ @a @a @a(a: {}, x: BLUE) @a(a: {}, x: RED) @a(x: \"\") @a(x: $w) @a(x: 0) @a(y: 0) @a1 @aa @b"
	checkSignatureText(t, "{ a "+dirs+" { b } ...f "+dirs+" ... "+dirs+" { c } } fragment f on T { a "+dirs+" }", 0,
		"{ a "+sortedDirs+" { b } ...f "+sortedDirs+" ... "+sortedDirs+" { c } } fragment f on T { a "+sortedDirs+" }")
	// The arguments are sorted and replaced before.
	checkSignatureText(t, "{ a @d(b: 1, a: 9) @d(a: 2, b: A) @d(a: 1, a: 0, b: 2) @c(z: 0) }", 0, "{ a @c(z: 0) @d(a: 0, a: 0, b: 0) @d(a: 0, b: 0) @d(a: 0, b: A) }")
}

func TestSignatureSortsSelections(t *testing.T) {
	// Within a kind, texts are sorted by their bytes: a line feed comes before a space, which comes before (, and } comes last.
	sorted := []string{
		"A", "B", "_", "a", "a @d", "a @d { b }", "a { ... on T { c } }", "a { ... { b c } }", "a { ... { b } }", "a { ...f }", "a { A }", "a { b }", "a { b { c } }",
		"a(x: \"\")", "a(x: $v)", "a(x: 0)", "a(x: 0) @d", "a(x: 0) { b }", "a(x: 0, y: 0)", "a(x: RED)", "a(x: [])", "a(x: {})", "a1", "a10", "a2", "aA", "aa", "b",
		"...A", "...a", "...a @c", "...a @d", "...a @d(x: 0)", "...aa", "...b",
		"... @d { b }", "... @d(x: 0) { b }", "... on A @d { a }", "... on A { a }", "... on A { b }", "... on AA { a }", "... on B { a }", "... { ...f }", "... { a }", "... { b { c } d }", "... { b { c } }",
	}
	longer := []string{"a { b ...f }", "a { b c d }", "a { b c }", "a { b d }", "a { b }", "a { b { c } }"}
	for _, l := range [][]string{sorted, longer} {
		order := "{ " + strings.Join(l, " ") + " }"
		reversed := slices.Clone(l)
		slices.Reverse(reversed)
		checkSignatureText(t, order, 0, order)
		checkSignatureText(t, "{ "+strings.Join(reversed, " ")+" }", 0, order)
		r := rand.New(rand.NewSource(1))
		for i := 0; i < 50 && !t.Failed(); i++ {
			var shuffled []string
			for _, i := range r.Perm(len(l)) {
				shuffled = append(shuffled, l[i])
			}
			set := "{ " + strings.Join(shuffled, " ") + " }"
			checkSignatureText(t, "mutation m "+set, 0, "mutation m "+order)
			checkSignatureText(t, "{ ... on T { k "+set+" } }", 0, "{ ... on T { k "+order+" } }")
			checkSignatureText(t, "{ ...q } fragment q on T "+set, 0, "{ ...q } fragment q on T "+order)
		}
	}
}

// Selections are sorted after all else has been done in them.
func TestSignatureSortsSelectionsLast(t *testing.T) {
	checkSignatureText(t, "{ a: z b: y z: a y: b }", 0, "{ a b y z }")
	checkSignatureText(t, "{ a(x: 9) a(x: 10, w: 1) a(y: 0) }", 0, "{ a(w: 0, x: 0) a(x: 0) a(y: 0) }")
	checkSignatureText(t, "{ a(z: 0, b: 1) a(c: 1) a(y: 0, a: 1) }", 0, "{ a(a: 0, y: 0) a(b: 0, z: 0) a(c: 0) }")
	checkSignatureText(t, "{ a @z @b a @c a @y @a }", 0, "{ a @a @y a @b @z a @c }")
	checkSignatureText(t, "{ a { z b } a { c } a { y a: A } }", 0, "{ a { A y } a { b z } a { c } }")
	checkSignatureText(t, "{ ... { z: a b: z } ... { ...a b } }", 0, "{ ... { a z } ... { b ...a } }")
	checkSignatureText(t, "{ ... on B { ...g a } b ...f ...e @d ... on A { x } a ...e }", 0, "{ a b ...e ...e @d ...f ... on A { x } ... on B { a ...g } }")
	checkSignatureText(t, "{ b a b: b a: a(x: 1) c: a(x: 2) { a } a }", 0, "{ a a a(x: 0) a(x: 0) { a } b b }")
}

// An independent way to the same document: the first one of the least elements is taken, again and again.
func expectedSignature(q api.Query, op int) api.Query {
	first := map[string]api.Frag{}
	for i := range q.Frags {
		f := q.Frags[len(q.Frags)-1-i]
		first[f.Name] = f
	}
	used := spreads(q.Ops[op].Sels)
	for i := 0; i < len(used); i++ {
		for _, name := range spreads(first[used[i]].Sels) {
			if !slices.Contains(used, name) {
				used = append(used, name)
			}
		}
	}
	slices.Sort(used)
	var frags []api.Frag
	for _, name := range slices.Compact(used) {
		if f, ok := first[name]; ok {
			frags = append(frags, api.Frag{Name: name, On: f.On, Sels: expectedSelections(f.Sels)})
		}
	}
	o := q.Ops[op]
	o.Vars = taken(o.Vars, func(v api.Var) string { return v.Name })
	for i := range o.Vars {
		o.Vars[i].Default = expectedValue(o.Vars[i].Default)
	}
	o.Sels = expectedSelections(o.Sels)
	return api.Query{Ops: []api.Op{o}, Frags: frags}
}

func spreads(l []api.Sel) []string {
	var names []string
	eachPart(reflect.ValueOf(l), func(part reflect.Value) {
		if s, ok := part.Interface().(api.Sel); ok && s.Kind == api.SSpread {
			names = append(names, s.Name)
		}
	})
	return names
}

func expectedSelections(l []api.Sel) []api.Sel {
	l = slices.Clone(l)
	for i, s := range l {
		var dirs []api.Dir
		for _, d := range s.Dirs {
			dirs = append(dirs, api.Dir{Name: d.Name, Args: expectedArguments(d.Args)})
		}
		dirs = taken(dirs, func(d api.Dir) string { return sdlprint.Directives([]api.Dir{d}) })
		l[i] = api.Sel{Kind: s.Kind, Name: s.Name, On: s.On, Args: expectedArguments(s.Args), Dirs: dirs, Sels: expectedSelections(s.Sels)}
	}
	return taken(l, func(s api.Sel) string { return strconv.Itoa(s.Kind) + expectedLines([]api.Sel{s}) })
}

func expectedArguments(l []api.Arg) []api.Arg {
	l = taken(l, func(a api.Arg) string { return a.Name })
	for i := range l {
		l[i].Value = expectedValue(l[i].Value)
	}
	return l
}

func expectedValue(v api.Value) api.Value {
	switch sdlprint.Value(v)[:1] {
	case "[", "{":
		return api.Value{Kind: v.Kind}
	case "\"":
		return str("")
	case "-", "0", "1", "2", "3", "4", "5", "6", "7", "8", "9":
		return number(0)
	}
	return v
}

// taken returns the elements of l in the order of their keys.
func taken[T any](l []T, key func(x T) string) []T {
	keys := make([]string, len(l))
	for i, x := range l {
		keys[i] = key(x)
	}
	var sorted []T
	l = slices.Clone(l)
	for len(l) > 0 {
		least := slices.Index(keys, slices.Min(keys))
		sorted = append(sorted, l[least])
		l, keys = slices.Delete(l, least, least+1), slices.Delete(keys, least, least+1)
	}
	return sorted
}

// eachOperation calls visit for some operations of random right documents that are not too long.
func eachOperation(visit func(r source, q api.Query, op int)) {
	eachRight(func(r source, q api.Query) {
		if len(q.Ops) > 0 && len(queryprint.Print(q)) < 20000 {
			visit(r, q, r.Intn(len(q.Ops)))
		}
	})
}

func TestSignatureOfRandomDocuments(t *testing.T) {
	changed, frags := 0, 0
	eachOperation(func(_ source, q api.Query, op int) {
		if t.Failed() {
			return
		}
		want := expectedSignature(q, op)
		checkSignature(t, q, op, want)
		if !queryprint.Same(document(q.Ops[op].Sels...), document(want.Ops[0].Sels...)) {
			changed++
		}
		frags += len(want.Frags)
	})
	if changed < 500 || frags < 200 {
		t.Error("too few documents:", changed, frags)
	}
}

// The lists have as many elements as the limits allow.
func TestSignatureAtTheLimits(t *testing.T) {
	r := source{Rand: rand.New(rand.NewSource(2)), rare: 1000}
	var q api.Query
	for op := range 2 {
		o := api.Op{Kind: api.OMutation, Name: "m" + strconv.Itoa(op), Vars: several(16, r.variable)}
		o.Sels = several(64, func() api.Sel {
			s := api.Sel{Kind: api.SField, Name: r.choose("a", "b"), Args: several(16, func() api.Arg { return arg(r.name(), r.value(2, true)) })}
			s.Sels = several(64, func() api.Sel { return spread("f" + strconv.Itoa(r.Intn(40))) })
			return s
		})
		q.Ops = append(q.Ops, o)
	}
	for i := range 62 {
		dirs := several(16, func() api.Dir {
			return directive(r.choose("a", "b"), several(16, func() api.Arg { return arg(r.name(), r.value(1, true)) })...)
		})
		q.Frags = append(q.Frags, api.Frag{Name: "f" + strconv.Itoa(61-i), On: "T", Sels: []api.Sel{{Kind: api.SSpread, Name: "f" + strconv.Itoa(r.Intn(62)), Dirs: dirs}}})
	}
	if !query.Right(q) {
		t.Error("not right")
	}
	for op := range q.Ops {
		checkSignature(t, q, op, expectedSignature(q, op))
	}
	l, want := []api.Sel{field("b"), field("a")}, []api.Sel{field("a"), field("b")}
	for level := 1; level <= api.MaxDepth; level++ {
		checkSignature(t, document(l...), 0, document(want...))
		l = []api.Sel{field("b"), field("c", field("b")), inline("", field("a")), field("c", l...)}
		want = []api.Sel{field("b"), field("c", want...), field("c", field("b")), inline("", field("a"))}
	}
}

// P9.5: neither the order of selections nor aliases play a part.
func TestSignatureOfShuffledDocuments(t *testing.T) {
	moved := 0
	eachOperation(func(r source, q api.Query, op int) {
		if t.Failed() {
			return
		}
		want := queryprint.Signature(q, op)
		other := clone(q)
		shuffle(r, other.Ops[op].Sels)
		if whole(other) != whole(q) {
			moved++
		}
		checkSignature(t, other, op, want)
		// The order of the selections of fragments, and that of the definitions, as far as names are different.
		for _, f := range other.Frags {
			shuffle(r, f.Sels)
		}
		slices.SortStableFunc(other.Frags, func(a, b api.Frag) int { return strings.Compare(b.Name, a.Name) })
		other.Ops = []api.Op{{}, other.Ops[op]}
		checkSignature(t, other, 1, want)
	})
	if moved < 800 {
		t.Error("too few documents:", moved)
	}
}

// shuffle changes the order of all selections, and all aliases.
func shuffle(r source, l []api.Sel) {
	r.Shuffle(len(l), func(i, k int) { l[i], l[k] = l[k], l[i] })
	for i := range l {
		if l[i].Kind == api.SField {
			l[i].Alias = r.either(r.name, r.nothing)
		}
		shuffle(r, l[i].Sels)
	}
}

// A result has memory of its own: no list shares its elements with another one of the result or of the document.
func TestSignatureSharesNoMemory(t *testing.T) {
	check := func(q api.Query, op int) {
		if t.Failed() {
			return
		}
		seen := map[any]bool{}
		eachElement(q, func(address any) { seen[address] = true })
		first, second := queryprint.Signature(q, op), queryprint.Signature(q, op)
		for _, x := range []api.Query{first, second} {
			eachElement(x, func(address any) {
				if seen[address] {
					t.Errorf("the signature of %q shares memory", brief(queryprint.Print(q)))
				}
				seen[address] = true
			})
		}
	}
	eachOperation(func(_ source, q api.Query, op int) { check(q, op) })
	shared := []api.Sel{field("b"), {Kind: api.SField, Name: "a", Args: []api.Arg{arg("x", number(1))}, Dirs: []api.Dir{directive("d")}}, spread("f")}
	q := document(field("a", shared...), field("b", shared...), inline("", shared...))
	q.Frags = []api.Frag{{Name: "f", On: "T", Sels: shared}}
	check(q, 0)
	eachWild(func(_ source, q api.Query) {
		for op := range q.Ops {
			if len(queryprint.Print(q)) < 2000 {
				check(q, op)
			}
		}
	})
}

// eachElement calls visit with the address of each element of each list of a document.
func eachElement(q api.Query, visit func(address any)) {
	eachPart(reflect.ValueOf(&q).Elem(), func(part reflect.Value) {
		for i := 0; part.Kind() == reflect.Slice && i < part.Len(); i++ {
			visit(part.Index(i).Addr().Interface())
		}
	})
}

// R1: the signatures of documents that are not right are not specified, but there are some.
func TestSignatureOfWrongDocuments(t *testing.T) {
	eachWild(func(r source, q api.Query) {
		for op := -1; op <= len(q.Ops); op++ {
			if len(q.Ops) < 10 || r.Intn(10) == 0 {
				queryprint.Signature(q, op)
			}
		}
	})
	deep := document(nested(1 << 16)...)
	deep.Frags = []api.Frag{{Name: "f", Sels: deep.Ops[0].Sels}}
	deep.Ops = append(deep.Ops, operation(api.OQuery, spread("f")))
	for op := range 2 {
		if got := queryprint.Signature(deep, op); !queryprint.Same(document(got.Ops[0].Sels...), document(deep.Ops[op].Sels...)) {
			t.Error("another signature of operation", op)
		}
	}
	var long api.Query
	for i := range 5000 {
		long.Frags = append(long.Frags, api.Frag{Name: strconv.Itoa(i), Sels: []api.Sel{spread(strconv.Itoa(i + 1)), spread(strconv.Itoa(i / 2))}})
	}
	long.Ops = []api.Op{operation(api.OQuery, spread("0"))}
	if got := queryprint.Signature(long, 0); len(got.Frags) != 5000 {
		t.Error("fragments are missing:", len(got.Frags))
	}
}
