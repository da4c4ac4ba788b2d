package queryprint_test

import (
	"slices"
	"strings"
	"testing"

	"supergraph/api"
	"supergraph/query"
	"supergraph/queryprint"
	"supergraph/sdlprint"
	"supergraph/typeref"
)

// P9.1

func checkPrint(t *testing.T, q api.Query, want string) {
	t.Helper()
	given := ""
	isShort := len(want) < 5000
	if isShort {
		given = whole(q)
	}
	if got := queryprint.Print(q); got != want {
		t.Errorf("Print is %q, not %q", brief(got), brief(want))
	}
	if isShort && whole(q) != given {
		t.Errorf("Print changed %s to %s", brief(given), brief(whole(q)))
	}
}

// checkLines expects the lines of selections at the level 1, and the same lines in operations and fragments.
func checkLines(t *testing.T, l []api.Sel, want string) {
	t.Helper()
	if got := queryprint.Sels(l); got != want {
		t.Errorf("Sels is %q, not %q", brief(got), brief(want))
	}
	if !query.Right(document(l...)) {
		t.Errorf("the document of %q is not right", brief(want))
	}
	checkPrint(t, document(l...), "{\n"+want+"}\n")
	checkPrint(t, api.Query{Ops: []api.Op{operation(api.OMutation, l...)}}, "mutation {\n"+want+"}\n")
	checkPrint(t, api.Query{Frags: []api.Frag{{Name: "f", On: "T", Sels: l}}}, "fragment f on T {\n"+want+"}\n")
}

func TestPrintExamples(t *testing.T) {
	checkPrint(t, api.Query{}, "")
	checkPrint(t, api.Query{Ops: []api.Op{}, Frags: []api.Frag{}}, "")
	user := api.Sel{Kind: api.SField, Alias: "a", Name: "user", Args: []api.Arg{arg("id", variable("n"))}, Dirs: []api.Dir{directive("include", arg("if", truth(1)))}, Sels: []api.Sel{spread("f")}}
	checkPrint(t, api.Query{
		Ops:   []api.Op{{Kind: api.OQuery, Name: "q", Vars: []api.Var{{Name: "n", Type: typeref.Named("Int"), Has: true, Default: number(1)}}, Sels: []api.Sel{user}}},
		Frags: []api.Frag{{Name: "f", On: "User", Sels: []api.Sel{inline("Admin", field("name"))}}},
	}, "query q($n: Int = 1) {\n  a: user(id: $n) @include(if: true) {\n    ...f\n  }\n}\n\nfragment f on User {\n  ... on Admin {\n    name\n  }\n}\n")
	checkPrint(t, api.Query{Ops: []api.Op{operation(api.OSubscription, field("a"))}}, "subscription {\n  a\n}\n")
	checkLines(t, []api.Sel{field("name")}, "  name\n")
	if got := queryprint.Sels(nil) + queryprint.Sels([]api.Sel{}); got != "" {
		t.Errorf("Sels of no selections is %q", got)
	}
}

func TestPrintOperations(t *testing.T) {
	list := typeref.NonNull(typeref.ListOf(typeref.NonNull(typeref.Named("Int"))))
	lists := map[string][]api.Var{
		"":                    nil,
		"($v: A)":             {{Name: "v", Type: typeref.Named("A")}},
		"($v: [Int!]!)":       {{Name: "v", Type: list}},
		"($v: A = null)":      {{Name: "v", Type: typeref.Named("A"), Has: true}},
		"($b: A = [], $a: B)": {{Name: "b", Type: typeref.Named("A"), Has: true, Default: listOf()}, {Name: "a", Type: typeref.Named("B")}},
		"($v: A, $on: B = {k: [1, \"x\"]}, $v: [Int!]! = RED)": {
			{Name: "v", Type: typeref.Named("A")},
			{Name: "on", Type: typeref.Named("B"), Has: true, Default: object("k", listOf(number(1), str("x")))},
			{Name: "v", Type: list, Has: true, Default: enum("RED")},
		},
	}
	for kind, word := range map[int]string{api.OQuery: "query", api.OMutation: "mutation", api.OSubscription: "subscription"} {
		for written, vars := range lists {
			for _, name := range []string{"", "a", "on", "query", "mutation", "__x"} {
				want := word + " " + name + written + " {\n  x\n}\n"
				if name == "" {
					want = word + written + " {\n  x\n}\n"
				}
				if kind == api.OQuery && name == "" && vars == nil {
					want = "{\n  x\n}\n"
				}
				o := api.Op{Kind: kind, Name: name, Vars: vars, Sels: []api.Sel{field("x")}}
				checkPrint(t, api.Query{Ops: []api.Op{o}}, want)
				checkPrint(t, api.Query{Ops: []api.Op{o, o}}, want+"\n"+want)
				o.Vars = slices.Concat([]api.Var{}, vars)
				checkPrint(t, api.Query{Ops: []api.Op{o}}, want)
			}
		}
	}
}

func TestPrintBlocks(t *testing.T) {
	a, b := operation(api.OQuery, field("a")), operation(api.OMutation, field("b"))
	f, g := api.Frag{Name: "f", On: "on", Sels: []api.Sel{field("c")}}, api.Frag{Name: "fragment", On: "T", Sels: []api.Sel{field("d"), field("e")}}
	const textA, textB, textF, textG = "{\n  a\n}\n", "mutation {\n  b\n}\n", "fragment f on on {\n  c\n}\n", "fragment fragment on T {\n  d\n  e\n}\n"
	checkPrint(t, api.Query{Ops: []api.Op{a, b}}, textA+"\n"+textB)
	checkPrint(t, api.Query{Ops: []api.Op{b, a}}, textB+"\n"+textA)
	checkPrint(t, api.Query{Frags: []api.Frag{f, g}}, textF+"\n"+textG)
	checkPrint(t, api.Query{Frags: []api.Frag{g, f, g}}, textG+"\n"+textF+"\n"+textG)
	checkPrint(t, api.Query{Ops: []api.Op{a, b}, Frags: []api.Frag{g, f}}, textA+"\n"+textB+"\n"+textG+"\n"+textF)
}

func TestPrintFields(t *testing.T) {
	sets := map[string][]api.Sel{"": nil, " {\n    b\n  }": {field("b")}, " {\n    ...f\n    c: d\n  }": {spread("f"), {Kind: api.SField, Alias: "c", Name: "d"}}}
	lists := map[string][]api.Arg{
		"": nil, "(x: 1)": {arg("x", number(1))}, "(y: $v, x: [$w, {k: $v}], y: \"\\n\")": {arg("y", variable("v")), arg("x", listOf(variable("w"), object("k", variable("v")))), arg("y", str("\n"))},
	}
	uses := map[string][]api.Dir{"": nil, " @d": {directive("d")}, " @d(x: true, y: RED) @c @d": {directive("d", arg("x", truth(1)), arg("y", enum("RED"))), directive("c"), directive("d")}}
	for set, sels := range sets {
		for args, argList := range lists {
			for dirs, dirList := range uses {
				for alias, start := range map[string]string{"": "  a", "b": "  b: a", "a": "  a: a", "on": "  on: a"} {
					s := api.Sel{Kind: api.SField, Alias: alias, Name: "a", Args: argList, Dirs: dirList, Sels: sels}
					checkLines(t, []api.Sel{s}, start+args+dirs+set+"\n")
					checkLines(t, []api.Sel{field("z"), s, s}, "  z\n"+strings.Repeat(start+args+dirs+set+"\n", 2))
				}
			}
		}
	}
	empty := api.Sel{Kind: api.SField, Name: "a", Args: []api.Arg{}, Dirs: []api.Dir{}, Sels: []api.Sel{}}
	checkLines(t, []api.Sel{empty}, "  a\n")
}

func TestPrintSpreadsAndInlineFragments(t *testing.T) {
	uses := map[string][]api.Dir{"": nil, " @d": {directive("d")}, " @d(x: $v) @c": {directive("d", arg("x", variable("v"))), directive("c")}}
	for dirs, l := range uses {
		s := api.Sel{Kind: api.SSpread, Name: "f", Dirs: l}
		checkLines(t, []api.Sel{s}, "  ...f"+dirs+"\n")
		checkLines(t, []api.Sel{s, field("a"), s}, "  ...f"+dirs+"\n  a\n  ...f"+dirs+"\n")
		for on, condition := range map[string]string{"": "", "T": " on T", "on": " on on"} {
			s := api.Sel{Kind: api.SInline, On: on, Dirs: l, Sels: []api.Sel{field("a"), spread("g")}}
			want := "  ..." + condition + dirs + " {\n    a\n    ...g\n  }\n"
			checkLines(t, []api.Sel{s}, want)
			checkLines(t, []api.Sel{s, field("on"), s}, want+"  on\n"+want)
		}
	}
}

func TestPrintLevels(t *testing.T) {
	l, want := []api.Sel{field("a"), spread("f")}, "a\n...f\n"
	for level := 1; level <= api.MaxDepth; level++ {
		checkLines(t, l, indented(want))
		switch level % 3 {
		case 0:
			l, want = []api.Sel{field("b", l...), field("c")}, "b {\n"+indented(want)+"}\nc\n"
		case 1:
			l, want = []api.Sel{inline("T", l...), inline("", field("c"))}, "... on T {\n"+indented(want)+"}\n... {\n  c\n}\n"
		case 2:
			l, want = []api.Sel{spread("f"), inline("", l...)}, "...f\n... {\n"+indented(want)+"}\n"
		}
	}
}

// indented begins every line with two more spaces.
func indented(lines string) string {
	return "  " + strings.ReplaceAll(strings.TrimSuffix(lines, "\n"), "\n", "\n  ") + "\n"
}

// An independent way to the same text: the words of each line, and the lines of each set.

func expectedText(q api.Query) string {
	var blocks []string
	for _, o := range q.Ops {
		blocks = append(blocks, expectedStart(o)+"\n"+indented(expectedLines(o.Sels))+"}\n")
	}
	for _, f := range q.Frags {
		blocks = append(blocks, strings.Join([]string{"fragment", f.Name, "on", f.On, "{\n"}, " ")+indented(expectedLines(f.Sels))+"}\n")
	}
	return strings.Join(blocks, "\n")
}

func expectedStart(o api.Op) string {
	words := []string{[]string{"", "query", "mutation", "subscription"}[o.Kind]}
	if o.Name != "" {
		words = append(words, o.Name)
	}
	words[len(words)-1] += enclosed(o.Vars, func(v api.Var) string {
		s := "$" + v.Name + ": " + typeref.Print(v.Type)
		if v.Has {
			s += " = " + sdlprint.Value(v.Default)
		}
		return s
	})
	if len(words) == 1 && words[0] == "query" {
		words = nil
	}
	return strings.Join(append(words, "{"), " ")
}

func expectedLines(l []api.Sel) string {
	s := ""
	for _, x := range l {
		var words []string
		switch {
		case x.Kind == api.SSpread:
			words = append(words, "..."+x.Name)
		case x.Kind == api.SInline:
			words = append(words, "...")
			if x.On != "" {
				words = append(words, "on", x.On)
			}
		case x.Alias != "":
			words = append(words, x.Alias+":", x.Name)
		default:
			words = append(words, x.Name)
		}
		words[len(words)-1] += enclosed(x.Args, func(a api.Arg) string { return a.Name + ": " + sdlprint.Value(a.Value) })
		for _, d := range x.Dirs {
			words = append(words, sdlprint.Directives([]api.Dir{d}))
		}
		if len(x.Sels) > 0 {
			words = append(words, "{\n"+indented(expectedLines(x.Sels))+"}")
		}
		s += strings.Join(words, " ") + "\n"
	}
	return s
}

func enclosed[T any](l []T, one func(x T) string) string {
	s := ""
	for i, x := range l {
		s += []string{"(", ", "}[min(i, 1)] + one(x)
	}
	if s != "" {
		s += ")"
	}
	return s
}

func TestPrintRandomDocuments(t *testing.T) {
	eachRight(func(r source, q api.Query) {
		if t.Failed() {
			return
		}
		checkPrint(t, q, expectedText(q))
		if len(q.Ops) > 0 {
			l := q.Ops[r.Intn(len(q.Ops))].Sels
			if got, want := queryprint.Sels(l), indented(expectedLines(l)); got != want {
				t.Errorf("Sels is %q, not %q", brief(got), brief(want))
			}
		}
	})
}

// The lists have as many elements as the limits allow.
func TestPrintAtTheLimits(t *testing.T) {
	args := slices.Repeat([]api.Arg{arg("x", api.Value{})}, 16)
	argsText := "(" + strings.Repeat("x: null, ", 15) + "x: null)"
	dirs := slices.Repeat([]api.Dir{directive("d", args...)}, 16)
	vars := slices.Repeat([]api.Var{{Name: "v", Type: api.Ref{Name: "A", Wraps: slices.Repeat([]int{api.WNonNull, api.WList}, 12)}}}, 16)
	one := "$v: " + strings.Repeat("[", 12) + "A" + strings.Repeat("]!", 12)
	o := api.Op{Kind: api.OQuery, Vars: vars, Sels: slices.Repeat([]api.Sel{{Kind: api.SField, Name: "a", Args: args, Dirs: dirs}}, 64)}
	want := "query(" + strings.Repeat(one+", ", 15) + one + ") {\n" + strings.Repeat("  a"+argsText+strings.Repeat(" @d"+argsText, 16)+"\n", 64) + "}\n"
	for _, count := range []int{1, 2, 64} {
		q := api.Query{Ops: slices.Repeat([]api.Op{o}, count)}
		if !query.Right(q) {
			t.Error("not right")
		}
		checkPrint(t, q, strings.Repeat(want+"\n", count-1)+want)
	}
	wide := document(field("a", field("b", slices.Repeat([]api.Sel{inline("", slices.Repeat([]api.Sel{spread("f")}, 64)...)}, 64)...)))
	inner := "      ... {\n" + strings.Repeat("        ...f\n", 64) + "      }\n"
	checkPrint(t, wide, "{\n  a {\n    b {\n"+strings.Repeat(inner, 64)+"    }\n  }\n}\n")
}

// R1: the text of documents that are not right is not specified, but there is one.
func TestPrintOfWrongDocuments(t *testing.T) {
	for _, kind := range []int{-1 << 63, -1, 0, 1, 2, 3, 4, 5, 1 << 40} {
		l := []api.Sel{{Kind: kind}, {Kind: kind, Alias: "a", Name: "b", On: "c", Args: []api.Arg{{}}, Dirs: []api.Dir{{}}, Sels: []api.Sel{{Kind: kind}}}}
		queryprint.Sels(l)
		queryprint.Print(api.Query{Ops: []api.Op{{Kind: kind}, {Kind: kind, Vars: []api.Var{{}}, Sels: l}}, Frags: []api.Frag{{}, {Sels: l}}})
	}
	deep := nested(2000)
	if n := strings.Count(queryprint.Sels(deep), "\n"); n < 2000 {
		t.Error("lines are missing:", n)
	}
	eachWild(func(_ source, q api.Query) {
		queryprint.Print(q)
		for _, o := range q.Ops {
			queryprint.Sels(o.Sels)
		}
	})
}

// nested returns selections with many levels.
func nested(levels int) []api.Sel {
	l := []api.Sel{field("a")}
	for range levels - 1 {
		l = []api.Sel{field("a", l...)}
	}
	return l
}
